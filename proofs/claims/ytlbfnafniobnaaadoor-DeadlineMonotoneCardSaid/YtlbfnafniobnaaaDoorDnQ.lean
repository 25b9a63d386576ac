/- DeadlineMonotone: the walk of the law. -/
import Derived.Test.YtlbfnafniobnaaaDoorDnP
import Derived.Test.YtlbfnafniobnaaaDoorDnMath
import Derived.Test.YtlbfnafniobnaaaDoorDlZ
namespace Go.Proofs.YtlbfnafniobnaaaDoor
open Go.RowKit Go.Shelf

set_option maxRecDepth 100000 in
set_option maxHeartbeats 1600000 in
theorem mo_small (t : Dl.T) (c : Cal) (q1 q2 : Option Addr) (cap1 cap2 : Nat) (lo hi : List Wh) (w : World) (ht : TAt w t) (hn : LenOK t) (hc : CalIn w c) (hl : EvAt w q1 lo) (hh : EvAt w q2 hi) (he : Env w) (hs : smallB t lo = false) :
    Calls Tryd.prog 3 #[.agg #[.int .i64 t.kd, .int .i64 t.n, .int .i64 t.ev, .bool t.bz, .slice t.p t.kids.length t.cap], .agg #[.bool c.b0, .bool c.b1, .bool c.b2, .bool c.b3, .bool c.b4, .bool c.b5, .bool c.b6, .slice c.p c.hs.length c.cap], .slice q1 lo.length cap1, .slice q2 hi.length cap2] w fun e w' => e = .returned (.bool true) ∧ Below w.heap.size w w' := by
  have HT0 := Lib.hid ht
  clear ht
  have HC0 := Lib.hid hc
  clear hc
  have HL0 := Lib.hid hl
  clear hl
  have HH0 := Lib.hid hh
  clear hh
  have HE0 := Lib.hid he
  clear he
  have HN := Lib.hid hn
  clear hn
  have HS := Lib.hid hs
  clear hs
  go_enter Tryd.func3, Tryd.ntmps3
  go_wp2_with fail
  refine (head_any _ (HE0.out.below (by repeat (first | exact Below.refl _ _ | assumption | refine below_drewN ?_ _ | refine Below.setCell ?_ (by first | (simp; done) | (simp; omega)) _ | refine Below.alloc ?_ (by first | (simp; done) | (simp; omega) | omega) _ | refine Below.drew ?_ | refine Below.trans ?_ (Below.mono (by assumption) (by first | (simp; done) | (simp; omega) | omega)))))).mono ?_
  rintro e w1 ⟨rfl, hb1⟩
  have hz1 := hb1.size
  (try simp at hz1)
  have bb1 : Below w.heap.size w w1 := (by repeat (first | exact Below.refl _ _ | assumption | refine below_drewN ?_ _ | refine Below.setCell ?_ (by first | (simp; done) | (simp; omega)) _ | refine Below.alloc ?_ (by first | (simp; done) | (simp; omega) | omega) _ | refine Below.drew ?_ | refine Below.trans ?_ (Below.mono (by assumption) (by first | (simp; done) | (simp; omega) | omega))))
  have be1 : Below w.heap.size w w1 := bb1
  have c1_t_0 : w1.cell? ⟨w.heap.size, 0, none⟩ = some (.int .i64 t.kd) := cell_keep hb1 (by go_simp)
  have c1_t_1 : w1.cell? ⟨w.heap.size, 1, none⟩ = some (.int .i64 t.n) := cell_keep hb1 (by go_simp)
  have c1_t_2 : w1.cell? ⟨w.heap.size, 2, none⟩ = some (.int .i64 t.ev) := cell_keep hb1 (by go_simp)
  have c1_t_3 : w1.cell? ⟨w.heap.size, 3, none⟩ = some (.bool t.bz) := cell_keep hb1 (by go_simp)
  have c1_t_4 : w1.cell? ⟨w.heap.size, 4, none⟩ = some (.slice t.p t.kids.length t.cap) := cell_keep hb1 (by go_simp)
  have l1_t : w.heap.size < w1.heap.size := by omega
  have m1_t : w.heap.size < w1.heap.size + 1 := by omega
  have c1_c_0 : w1.cell? ⟨w.heap.size + 1, 0, none⟩ = some (.bool c.b0) := cell_keep hb1 (by go_simp)
  have c1_c_1 : w1.cell? ⟨w.heap.size + 1, 1, none⟩ = some (.bool c.b1) := cell_keep hb1 (by go_simp)
  have c1_c_2 : w1.cell? ⟨w.heap.size + 1, 2, none⟩ = some (.bool c.b2) := cell_keep hb1 (by go_simp)
  have c1_c_3 : w1.cell? ⟨w.heap.size + 1, 3, none⟩ = some (.bool c.b3) := cell_keep hb1 (by go_simp)
  have c1_c_4 : w1.cell? ⟨w.heap.size + 1, 4, none⟩ = some (.bool c.b4) := cell_keep hb1 (by go_simp)
  have c1_c_5 : w1.cell? ⟨w.heap.size + 1, 5, none⟩ = some (.bool c.b5) := cell_keep hb1 (by go_simp)
  have c1_c_6 : w1.cell? ⟨w.heap.size + 1, 6, none⟩ = some (.bool c.b6) := cell_keep hb1 (by go_simp)
  have c1_c_7 : w1.cell? ⟨w.heap.size + 1, 7, none⟩ = some (.slice c.p c.hs.length c.cap) := cell_keep hb1 (by go_simp)
  have l1_c : w.heap.size + 1 < w1.heap.size := by omega
  have m1_c : w.heap.size + 1 < w1.heap.size + 1 := by omega
  have HT1 := Lib.hid (HT0.out.below bb1)
  have HC1 := Lib.hid (HC0.out.below bb1)
  have HL1 := Lib.hid (HL0.out.below bb1)
  have HH1 := Lib.hid (HH0.out.below bb1)
  have HE1 := Lib.hid (HE0.out.below bb1)
  have BE1 := Lib.hid be1
  clear be1 bb1 hb1 HT0 HC0 HL0 HH0 HE0
  go_wp2_with fail
  refine (small_any t q1 lo cap1 _ HN.out (HT1.out.below (by repeat (first | exact Below.refl _ _ | assumption | refine below_drewN ?_ _ | refine Below.setCell ?_ (by first | (simp; done) | (simp; omega)) _ | refine Below.alloc ?_ (by first | (simp; done) | (simp; omega) | omega) _ | refine Below.drew ?_ | refine Below.trans ?_ (Below.mono (by assumption) (by first | (simp; done) | (simp; omega) | omega)))))).mono ?_
  rintro e w2 ⟨rfl, hb2⟩
  rw [HS.out]
  have hz2 := hb2.size
  (try simp at hz2)
  have bb2 : Below w1.heap.size w1 w2 := (by repeat (first | exact Below.refl _ _ | assumption | refine below_drewN ?_ _ | refine Below.setCell ?_ (by first | (simp; done) | (simp; omega)) _ | refine Below.alloc ?_ (by first | (simp; done) | (simp; omega) | omega) _ | refine Below.drew ?_ | refine Below.trans ?_ (Below.mono (by assumption) (by first | (simp; done) | (simp; omega) | omega))))
  have be2 : Below w.heap.size w w2 := BE1.out.trans (bb2.mono BE1.out.size)
  have c2_t_0 : w2.cell? ⟨w.heap.size, 0, none⟩ = some (.int .i64 t.kd) := cell_keep bb2 c1_t_0
  have c2_t_1 : w2.cell? ⟨w.heap.size, 1, none⟩ = some (.int .i64 t.n) := cell_keep bb2 c1_t_1
  have c2_t_2 : w2.cell? ⟨w.heap.size, 2, none⟩ = some (.int .i64 t.ev) := cell_keep bb2 c1_t_2
  have c2_t_3 : w2.cell? ⟨w.heap.size, 3, none⟩ = some (.bool t.bz) := cell_keep bb2 c1_t_3
  have c2_t_4 : w2.cell? ⟨w.heap.size, 4, none⟩ = some (.slice t.p t.kids.length t.cap) := cell_keep bb2 c1_t_4
  have l2_t : w.heap.size < w2.heap.size := by omega
  have m2_t : w.heap.size < w2.heap.size + 1 := by omega
  have c2_c_0 : w2.cell? ⟨w.heap.size + 1, 0, none⟩ = some (.bool c.b0) := cell_keep bb2 c1_c_0
  have c2_c_1 : w2.cell? ⟨w.heap.size + 1, 1, none⟩ = some (.bool c.b1) := cell_keep bb2 c1_c_1
  have c2_c_2 : w2.cell? ⟨w.heap.size + 1, 2, none⟩ = some (.bool c.b2) := cell_keep bb2 c1_c_2
  have c2_c_3 : w2.cell? ⟨w.heap.size + 1, 3, none⟩ = some (.bool c.b3) := cell_keep bb2 c1_c_3
  have c2_c_4 : w2.cell? ⟨w.heap.size + 1, 4, none⟩ = some (.bool c.b4) := cell_keep bb2 c1_c_4
  have c2_c_5 : w2.cell? ⟨w.heap.size + 1, 5, none⟩ = some (.bool c.b5) := cell_keep bb2 c1_c_5
  have c2_c_6 : w2.cell? ⟨w.heap.size + 1, 6, none⟩ = some (.bool c.b6) := cell_keep bb2 c1_c_6
  have c2_c_7 : w2.cell? ⟨w.heap.size + 1, 7, none⟩ = some (.slice c.p c.hs.length c.cap) := cell_keep bb2 c1_c_7
  have l2_c : w.heap.size + 1 < w2.heap.size := by omega
  have m2_c : w.heap.size + 1 < w2.heap.size + 1 := by omega
  have HT2 := Lib.hid (HT1.out.below bb2)
  have HC2 := Lib.hid (HC1.out.below bb2)
  have HL2 := Lib.hid (HL1.out.below bb2)
  have HH2 := Lib.hid (HH1.out.below bb2)
  have HE2 := Lib.hid (HE1.out.below bb2)
  have BE2 := Lib.hid be2
  clear be2 bb2 hb2 BE1 c1_t_0 c1_t_1 c1_t_2 c1_t_3 c1_t_4 l1_t m1_t c1_c_0 c1_c_1 c1_c_2 c1_c_3 c1_c_4 c1_c_5 c1_c_6 c1_c_7 l1_c m1_c HT1 HC1 HL1 HH1 HE1
  go_wp2_with fail
  go_ret
  exact ⟨rfl, (by have q := BE2.out; repeat (first | exact q | refine Below.setCell ?_ (by first | (simp; done) | omega | (simp; omega)) _ | refine Below.alloc ?_ (by first | (simp; done) | omega | (simp; omega)) _ | refine below_drewN ?_ _ | refine Below.drew ?_))⟩
set_option maxRecDepth 100000 in
set_option maxHeartbeats 1600000 in
theorem mo_ord (t : Dl.T) (c : Cal) (q1 q2 : Option Addr) (cap1 cap2 : Nat) (lo hi : List Wh) (w : World) (ht : TAt w t) (hn : LenOK t) (hc : CalIn w c) (hl : EvAt w q1 lo) (hh : EvAt w q2 hi) (he : Env w) (hs : smallB t lo = true) (hln : lo.length ≤ 40) (ho : ordL lo hi = false) :
    Calls Tryd.prog 3 #[.agg #[.int .i64 t.kd, .int .i64 t.n, .int .i64 t.ev, .bool t.bz, .slice t.p t.kids.length t.cap], .agg #[.bool c.b0, .bool c.b1, .bool c.b2, .bool c.b3, .bool c.b4, .bool c.b5, .bool c.b6, .slice c.p c.hs.length c.cap], .slice q1 lo.length cap1, .slice q2 hi.length cap2] w fun e w' => e = .returned (.bool true) ∧ Below w.heap.size w w' := by
  have HT0 := Lib.hid ht
  clear ht
  have HC0 := Lib.hid hc
  clear hc
  have HL0 := Lib.hid hl
  clear hl
  have HH0 := Lib.hid hh
  clear hh
  have HE0 := Lib.hid he
  clear he
  have HN := Lib.hid hn
  clear hn
  have HS := Lib.hid hs
  clear hs
  have HO := Lib.hid ho
  clear ho
  go_enter Tryd.func3, Tryd.ntmps3
  go_wp2_with fail
  refine (head_any _ (HE0.out.below (by repeat (first | exact Below.refl _ _ | assumption | refine below_drewN ?_ _ | refine Below.setCell ?_ (by first | (simp; done) | (simp; omega)) _ | refine Below.alloc ?_ (by first | (simp; done) | (simp; omega) | omega) _ | refine Below.drew ?_ | refine Below.trans ?_ (Below.mono (by assumption) (by first | (simp; done) | (simp; omega) | omega)))))).mono ?_
  rintro e w1 ⟨rfl, hb1⟩
  have hz1 := hb1.size
  (try simp at hz1)
  have bb1 : Below w.heap.size w w1 := (by repeat (first | exact Below.refl _ _ | assumption | refine below_drewN ?_ _ | refine Below.setCell ?_ (by first | (simp; done) | (simp; omega)) _ | refine Below.alloc ?_ (by first | (simp; done) | (simp; omega) | omega) _ | refine Below.drew ?_ | refine Below.trans ?_ (Below.mono (by assumption) (by first | (simp; done) | (simp; omega) | omega))))
  have be1 : Below w.heap.size w w1 := bb1
  have c1_t_0 : w1.cell? ⟨w.heap.size, 0, none⟩ = some (.int .i64 t.kd) := cell_keep hb1 (by go_simp)
  have c1_t_1 : w1.cell? ⟨w.heap.size, 1, none⟩ = some (.int .i64 t.n) := cell_keep hb1 (by go_simp)
  have c1_t_2 : w1.cell? ⟨w.heap.size, 2, none⟩ = some (.int .i64 t.ev) := cell_keep hb1 (by go_simp)
  have c1_t_3 : w1.cell? ⟨w.heap.size, 3, none⟩ = some (.bool t.bz) := cell_keep hb1 (by go_simp)
  have c1_t_4 : w1.cell? ⟨w.heap.size, 4, none⟩ = some (.slice t.p t.kids.length t.cap) := cell_keep hb1 (by go_simp)
  have l1_t : w.heap.size < w1.heap.size := by omega
  have m1_t : w.heap.size < w1.heap.size + 1 := by omega
  have c1_c_0 : w1.cell? ⟨w.heap.size + 1, 0, none⟩ = some (.bool c.b0) := cell_keep hb1 (by go_simp)
  have c1_c_1 : w1.cell? ⟨w.heap.size + 1, 1, none⟩ = some (.bool c.b1) := cell_keep hb1 (by go_simp)
  have c1_c_2 : w1.cell? ⟨w.heap.size + 1, 2, none⟩ = some (.bool c.b2) := cell_keep hb1 (by go_simp)
  have c1_c_3 : w1.cell? ⟨w.heap.size + 1, 3, none⟩ = some (.bool c.b3) := cell_keep hb1 (by go_simp)
  have c1_c_4 : w1.cell? ⟨w.heap.size + 1, 4, none⟩ = some (.bool c.b4) := cell_keep hb1 (by go_simp)
  have c1_c_5 : w1.cell? ⟨w.heap.size + 1, 5, none⟩ = some (.bool c.b5) := cell_keep hb1 (by go_simp)
  have c1_c_6 : w1.cell? ⟨w.heap.size + 1, 6, none⟩ = some (.bool c.b6) := cell_keep hb1 (by go_simp)
  have c1_c_7 : w1.cell? ⟨w.heap.size + 1, 7, none⟩ = some (.slice c.p c.hs.length c.cap) := cell_keep hb1 (by go_simp)
  have l1_c : w.heap.size + 1 < w1.heap.size := by omega
  have m1_c : w.heap.size + 1 < w1.heap.size + 1 := by omega
  have HT1 := Lib.hid (HT0.out.below bb1)
  have HC1 := Lib.hid (HC0.out.below bb1)
  have HL1 := Lib.hid (HL0.out.below bb1)
  have HH1 := Lib.hid (HH0.out.below bb1)
  have HE1 := Lib.hid (HE0.out.below bb1)
  have BE1 := Lib.hid be1
  clear be1 bb1 hb1 HT0 HC0 HL0 HH0 HE0
  go_wp2_with fail
  refine (small_any t q1 lo cap1 _ HN.out (HT1.out.below (by repeat (first | exact Below.refl _ _ | assumption | refine below_drewN ?_ _ | refine Below.setCell ?_ (by first | (simp; done) | (simp; omega)) _ | refine Below.alloc ?_ (by first | (simp; done) | (simp; omega) | omega) _ | refine Below.drew ?_ | refine Below.trans ?_ (Below.mono (by assumption) (by first | (simp; done) | (simp; omega) | omega)))))).mono ?_
  rintro e w2 ⟨rfl, hb2⟩
  rw [HS.out]
  have hz2 := hb2.size
  (try simp at hz2)
  have bb2 : Below w1.heap.size w1 w2 := (by repeat (first | exact Below.refl _ _ | assumption | refine below_drewN ?_ _ | refine Below.setCell ?_ (by first | (simp; done) | (simp; omega)) _ | refine Below.alloc ?_ (by first | (simp; done) | (simp; omega) | omega) _ | refine Below.drew ?_ | refine Below.trans ?_ (Below.mono (by assumption) (by first | (simp; done) | (simp; omega) | omega))))
  have be2 : Below w.heap.size w w2 := BE1.out.trans (bb2.mono BE1.out.size)
  have c2_t_0 : w2.cell? ⟨w.heap.size, 0, none⟩ = some (.int .i64 t.kd) := cell_keep bb2 c1_t_0
  have c2_t_1 : w2.cell? ⟨w.heap.size, 1, none⟩ = some (.int .i64 t.n) := cell_keep bb2 c1_t_1
  have c2_t_2 : w2.cell? ⟨w.heap.size, 2, none⟩ = some (.int .i64 t.ev) := cell_keep bb2 c1_t_2
  have c2_t_3 : w2.cell? ⟨w.heap.size, 3, none⟩ = some (.bool t.bz) := cell_keep bb2 c1_t_3
  have c2_t_4 : w2.cell? ⟨w.heap.size, 4, none⟩ = some (.slice t.p t.kids.length t.cap) := cell_keep bb2 c1_t_4
  have l2_t : w.heap.size < w2.heap.size := by omega
  have m2_t : w.heap.size < w2.heap.size + 1 := by omega
  have c2_c_0 : w2.cell? ⟨w.heap.size + 1, 0, none⟩ = some (.bool c.b0) := cell_keep bb2 c1_c_0
  have c2_c_1 : w2.cell? ⟨w.heap.size + 1, 1, none⟩ = some (.bool c.b1) := cell_keep bb2 c1_c_1
  have c2_c_2 : w2.cell? ⟨w.heap.size + 1, 2, none⟩ = some (.bool c.b2) := cell_keep bb2 c1_c_2
  have c2_c_3 : w2.cell? ⟨w.heap.size + 1, 3, none⟩ = some (.bool c.b3) := cell_keep bb2 c1_c_3
  have c2_c_4 : w2.cell? ⟨w.heap.size + 1, 4, none⟩ = some (.bool c.b4) := cell_keep bb2 c1_c_4
  have c2_c_5 : w2.cell? ⟨w.heap.size + 1, 5, none⟩ = some (.bool c.b5) := cell_keep bb2 c1_c_5
  have c2_c_6 : w2.cell? ⟨w.heap.size + 1, 6, none⟩ = some (.bool c.b6) := cell_keep bb2 c1_c_6
  have c2_c_7 : w2.cell? ⟨w.heap.size + 1, 7, none⟩ = some (.slice c.p c.hs.length c.cap) := cell_keep bb2 c1_c_7
  have l2_c : w.heap.size + 1 < w2.heap.size := by omega
  have m2_c : w.heap.size + 1 < w2.heap.size + 1 := by omega
  have HT2 := Lib.hid (HT1.out.below bb2)
  have HC2 := Lib.hid (HC1.out.below bb2)
  have HL2 := Lib.hid (HL1.out.below bb2)
  have HH2 := Lib.hid (HH1.out.below bb2)
  have HE2 := Lib.hid (HE1.out.below bb2)
  have BE2 := Lib.hid be2
  clear be2 bb2 hb2 BE1 c1_t_0 c1_t_1 c1_t_2 c1_t_3 c1_t_4 l1_t m1_t c1_c_0 c1_c_1 c1_c_2 c1_c_3 c1_c_4 c1_c_5 c1_c_6 c1_c_7 l1_c m1_c HT1 HC1 HL1 HH1 HE1
  go_wp2_with fail
  refine (ordered_calls q1 q2 cap1 cap2 lo hi _ (by omega) (HL2.out.below (by repeat (first | exact Below.refl _ _ | assumption | refine below_drewN ?_ _ | refine Below.setCell ?_ (by first | (simp; done) | (simp; omega)) _ | refine Below.alloc ?_ (by first | (simp; done) | (simp; omega) | omega) _ | refine Below.drew ?_ | refine Below.trans ?_ (Below.mono (by assumption) (by first | (simp; done) | (simp; omega) | omega))))) (HH2.out.below (by repeat (first | exact Below.refl _ _ | assumption | refine below_drewN ?_ _ | refine Below.setCell ?_ (by first | (simp; done) | (simp; omega)) _ | refine Below.alloc ?_ (by first | (simp; done) | (simp; omega) | omega) _ | refine Below.drew ?_ | refine Below.trans ?_ (Below.mono (by assumption) (by first | (simp; done) | (simp; omega) | omega)))))).mono ?_
  rintro e w3 ⟨rfl, hb3⟩
  rw [HO.out]
  have hz3 := hb3.size
  (try simp at hz3)
  have bb3 : Below w2.heap.size w2 w3 := (by repeat (first | exact Below.refl _ _ | assumption | refine below_drewN ?_ _ | refine Below.setCell ?_ (by first | (simp; done) | (simp; omega)) _ | refine Below.alloc ?_ (by first | (simp; done) | (simp; omega) | omega) _ | refine Below.drew ?_ | refine Below.trans ?_ (Below.mono (by assumption) (by first | (simp; done) | (simp; omega) | omega))))
  have be3 : Below w.heap.size w w3 := BE2.out.trans (bb3.mono BE2.out.size)
  have c3_t_0 : w3.cell? ⟨w.heap.size, 0, none⟩ = some (.int .i64 t.kd) := cell_keep bb3 c2_t_0
  have c3_t_1 : w3.cell? ⟨w.heap.size, 1, none⟩ = some (.int .i64 t.n) := cell_keep bb3 c2_t_1
  have c3_t_2 : w3.cell? ⟨w.heap.size, 2, none⟩ = some (.int .i64 t.ev) := cell_keep bb3 c2_t_2
  have c3_t_3 : w3.cell? ⟨w.heap.size, 3, none⟩ = some (.bool t.bz) := cell_keep bb3 c2_t_3
  have c3_t_4 : w3.cell? ⟨w.heap.size, 4, none⟩ = some (.slice t.p t.kids.length t.cap) := cell_keep bb3 c2_t_4
  have l3_t : w.heap.size < w3.heap.size := by omega
  have m3_t : w.heap.size < w3.heap.size + 1 := by omega
  have c3_c_0 : w3.cell? ⟨w.heap.size + 1, 0, none⟩ = some (.bool c.b0) := cell_keep bb3 c2_c_0
  have c3_c_1 : w3.cell? ⟨w.heap.size + 1, 1, none⟩ = some (.bool c.b1) := cell_keep bb3 c2_c_1
  have c3_c_2 : w3.cell? ⟨w.heap.size + 1, 2, none⟩ = some (.bool c.b2) := cell_keep bb3 c2_c_2
  have c3_c_3 : w3.cell? ⟨w.heap.size + 1, 3, none⟩ = some (.bool c.b3) := cell_keep bb3 c2_c_3
  have c3_c_4 : w3.cell? ⟨w.heap.size + 1, 4, none⟩ = some (.bool c.b4) := cell_keep bb3 c2_c_4
  have c3_c_5 : w3.cell? ⟨w.heap.size + 1, 5, none⟩ = some (.bool c.b5) := cell_keep bb3 c2_c_5
  have c3_c_6 : w3.cell? ⟨w.heap.size + 1, 6, none⟩ = some (.bool c.b6) := cell_keep bb3 c2_c_6
  have c3_c_7 : w3.cell? ⟨w.heap.size + 1, 7, none⟩ = some (.slice c.p c.hs.length c.cap) := cell_keep bb3 c2_c_7
  have l3_c : w.heap.size + 1 < w3.heap.size := by omega
  have m3_c : w.heap.size + 1 < w3.heap.size + 1 := by omega
  have HT3 := Lib.hid (HT2.out.below bb3)
  have HC3 := Lib.hid (HC2.out.below bb3)
  have HL3 := Lib.hid (HL2.out.below bb3)
  have HH3 := Lib.hid (HH2.out.below bb3)
  have HE3 := Lib.hid (HE2.out.below bb3)
  have BE3 := Lib.hid be3
  clear be3 bb3 hb3 BE2 c2_t_0 c2_t_1 c2_t_2 c2_t_3 c2_t_4 l2_t m2_t c2_c_0 c2_c_1 c2_c_2 c2_c_3 c2_c_4 c2_c_5 c2_c_6 c2_c_7 l2_c m2_c HT2 HC2 HL2 HH2 HE2
  go_wp2_with fail
  go_ret
  exact ⟨rfl, (by have q := BE3.out; repeat (first | exact q | refine Below.setCell ?_ (by first | (simp; done) | omega | (simp; omega)) _ | refine Below.alloc ?_ (by first | (simp; done) | omega | (simp; omega)) _ | refine below_drewN ?_ _ | refine Below.drew ?_))⟩
set_option maxRecDepth 100000 in
set_option maxHeartbeats 1600000 in
theorem mo_f1 (t : Dl.T) (c : Cal) (q1 q2 : Option Addr) (cap1 cap2 : Nat) (lo hi : List Wh) (a e : Int) (ok : Bool) (w : World) (ht : TAt w t) (hn : LenOK t) (hc : CalIn w c) (hl : EvAt w q1 lo) (hh : EvAt w q2 hi) (he : Env w) (hs : smallB t lo = true) (hln : lo.length ≤ 40) (hlh : hi.length ≤ 40) (ho : ordL lo hi = true) (ha : evalS t c lo = (a, ok, e)) (hb : evalS t c hi = (0, false, 1)) :
    Calls Tryd.prog 3 #[.agg #[.int .i64 t.kd, .int .i64 t.n, .int .i64 t.ev, .bool t.bz, .slice t.p t.kids.length t.cap], .agg #[.bool c.b0, .bool c.b1, .bool c.b2, .bool c.b3, .bool c.b4, .bool c.b5, .bool c.b6, .slice c.p c.hs.length c.cap], .slice q1 lo.length cap1, .slice q2 hi.length cap2] w fun e w' => e = .returned (.bool true) ∧ Below w.heap.size w w' := by
  have HT0 := Lib.hid ht
  clear ht
  have HC0 := Lib.hid hc
  clear hc
  have HL0 := Lib.hid hl
  clear hl
  have HH0 := Lib.hid hh
  clear hh
  have HE0 := Lib.hid he
  clear he
  have HN := Lib.hid hn
  clear hn
  have HS := Lib.hid hs
  clear hs
  have HO := Lib.hid ho
  clear ho
  have HA := Lib.hid ha
  clear ha
  have HB := Lib.hid hb
  clear hb
  go_enter Tryd.func3, Tryd.ntmps3
  go_wp2_with fail
  refine (head_any _ (HE0.out.below (by repeat (first | exact Below.refl _ _ | assumption | refine below_drewN ?_ _ | refine Below.setCell ?_ (by first | (simp; done) | (simp; omega)) _ | refine Below.alloc ?_ (by first | (simp; done) | (simp; omega) | omega) _ | refine Below.drew ?_ | refine Below.trans ?_ (Below.mono (by assumption) (by first | (simp; done) | (simp; omega) | omega)))))).mono ?_
  rintro e w1 ⟨rfl, hb1⟩
  have hz1 := hb1.size
  (try simp at hz1)
  have bb1 : Below w.heap.size w w1 := (by repeat (first | exact Below.refl _ _ | assumption | refine below_drewN ?_ _ | refine Below.setCell ?_ (by first | (simp; done) | (simp; omega)) _ | refine Below.alloc ?_ (by first | (simp; done) | (simp; omega) | omega) _ | refine Below.drew ?_ | refine Below.trans ?_ (Below.mono (by assumption) (by first | (simp; done) | (simp; omega) | omega))))
  have be1 : Below w.heap.size w w1 := bb1
  have c1_t_0 : w1.cell? ⟨w.heap.size, 0, none⟩ = some (.int .i64 t.kd) := cell_keep hb1 (by go_simp)
  have c1_t_1 : w1.cell? ⟨w.heap.size, 1, none⟩ = some (.int .i64 t.n) := cell_keep hb1 (by go_simp)
  have c1_t_2 : w1.cell? ⟨w.heap.size, 2, none⟩ = some (.int .i64 t.ev) := cell_keep hb1 (by go_simp)
  have c1_t_3 : w1.cell? ⟨w.heap.size, 3, none⟩ = some (.bool t.bz) := cell_keep hb1 (by go_simp)
  have c1_t_4 : w1.cell? ⟨w.heap.size, 4, none⟩ = some (.slice t.p t.kids.length t.cap) := cell_keep hb1 (by go_simp)
  have l1_t : w.heap.size < w1.heap.size := by omega
  have m1_t : w.heap.size < w1.heap.size + 1 := by omega
  have c1_c_0 : w1.cell? ⟨w.heap.size + 1, 0, none⟩ = some (.bool c.b0) := cell_keep hb1 (by go_simp)
  have c1_c_1 : w1.cell? ⟨w.heap.size + 1, 1, none⟩ = some (.bool c.b1) := cell_keep hb1 (by go_simp)
  have c1_c_2 : w1.cell? ⟨w.heap.size + 1, 2, none⟩ = some (.bool c.b2) := cell_keep hb1 (by go_simp)
  have c1_c_3 : w1.cell? ⟨w.heap.size + 1, 3, none⟩ = some (.bool c.b3) := cell_keep hb1 (by go_simp)
  have c1_c_4 : w1.cell? ⟨w.heap.size + 1, 4, none⟩ = some (.bool c.b4) := cell_keep hb1 (by go_simp)
  have c1_c_5 : w1.cell? ⟨w.heap.size + 1, 5, none⟩ = some (.bool c.b5) := cell_keep hb1 (by go_simp)
  have c1_c_6 : w1.cell? ⟨w.heap.size + 1, 6, none⟩ = some (.bool c.b6) := cell_keep hb1 (by go_simp)
  have c1_c_7 : w1.cell? ⟨w.heap.size + 1, 7, none⟩ = some (.slice c.p c.hs.length c.cap) := cell_keep hb1 (by go_simp)
  have l1_c : w.heap.size + 1 < w1.heap.size := by omega
  have m1_c : w.heap.size + 1 < w1.heap.size + 1 := by omega
  have HT1 := Lib.hid (HT0.out.below bb1)
  have HC1 := Lib.hid (HC0.out.below bb1)
  have HL1 := Lib.hid (HL0.out.below bb1)
  have HH1 := Lib.hid (HH0.out.below bb1)
  have HE1 := Lib.hid (HE0.out.below bb1)
  have BE1 := Lib.hid be1
  clear be1 bb1 hb1 HT0 HC0 HL0 HH0 HE0
  go_wp2_with fail
  refine (small_any t q1 lo cap1 _ HN.out (HT1.out.below (by repeat (first | exact Below.refl _ _ | assumption | refine below_drewN ?_ _ | refine Below.setCell ?_ (by first | (simp; done) | (simp; omega)) _ | refine Below.alloc ?_ (by first | (simp; done) | (simp; omega) | omega) _ | refine Below.drew ?_ | refine Below.trans ?_ (Below.mono (by assumption) (by first | (simp; done) | (simp; omega) | omega)))))).mono ?_
  rintro e w2 ⟨rfl, hb2⟩
  rw [HS.out]
  have hz2 := hb2.size
  (try simp at hz2)
  have bb2 : Below w1.heap.size w1 w2 := (by repeat (first | exact Below.refl _ _ | assumption | refine below_drewN ?_ _ | refine Below.setCell ?_ (by first | (simp; done) | (simp; omega)) _ | refine Below.alloc ?_ (by first | (simp; done) | (simp; omega) | omega) _ | refine Below.drew ?_ | refine Below.trans ?_ (Below.mono (by assumption) (by first | (simp; done) | (simp; omega) | omega))))
  have be2 : Below w.heap.size w w2 := BE1.out.trans (bb2.mono BE1.out.size)
  have c2_t_0 : w2.cell? ⟨w.heap.size, 0, none⟩ = some (.int .i64 t.kd) := cell_keep bb2 c1_t_0
  have c2_t_1 : w2.cell? ⟨w.heap.size, 1, none⟩ = some (.int .i64 t.n) := cell_keep bb2 c1_t_1
  have c2_t_2 : w2.cell? ⟨w.heap.size, 2, none⟩ = some (.int .i64 t.ev) := cell_keep bb2 c1_t_2
  have c2_t_3 : w2.cell? ⟨w.heap.size, 3, none⟩ = some (.bool t.bz) := cell_keep bb2 c1_t_3
  have c2_t_4 : w2.cell? ⟨w.heap.size, 4, none⟩ = some (.slice t.p t.kids.length t.cap) := cell_keep bb2 c1_t_4
  have l2_t : w.heap.size < w2.heap.size := by omega
  have m2_t : w.heap.size < w2.heap.size + 1 := by omega
  have c2_c_0 : w2.cell? ⟨w.heap.size + 1, 0, none⟩ = some (.bool c.b0) := cell_keep bb2 c1_c_0
  have c2_c_1 : w2.cell? ⟨w.heap.size + 1, 1, none⟩ = some (.bool c.b1) := cell_keep bb2 c1_c_1
  have c2_c_2 : w2.cell? ⟨w.heap.size + 1, 2, none⟩ = some (.bool c.b2) := cell_keep bb2 c1_c_2
  have c2_c_3 : w2.cell? ⟨w.heap.size + 1, 3, none⟩ = some (.bool c.b3) := cell_keep bb2 c1_c_3
  have c2_c_4 : w2.cell? ⟨w.heap.size + 1, 4, none⟩ = some (.bool c.b4) := cell_keep bb2 c1_c_4
  have c2_c_5 : w2.cell? ⟨w.heap.size + 1, 5, none⟩ = some (.bool c.b5) := cell_keep bb2 c1_c_5
  have c2_c_6 : w2.cell? ⟨w.heap.size + 1, 6, none⟩ = some (.bool c.b6) := cell_keep bb2 c1_c_6
  have c2_c_7 : w2.cell? ⟨w.heap.size + 1, 7, none⟩ = some (.slice c.p c.hs.length c.cap) := cell_keep bb2 c1_c_7
  have l2_c : w.heap.size + 1 < w2.heap.size := by omega
  have m2_c : w.heap.size + 1 < w2.heap.size + 1 := by omega
  have HT2 := Lib.hid (HT1.out.below bb2)
  have HC2 := Lib.hid (HC1.out.below bb2)
  have HL2 := Lib.hid (HL1.out.below bb2)
  have HH2 := Lib.hid (HH1.out.below bb2)
  have HE2 := Lib.hid (HE1.out.below bb2)
  have BE2 := Lib.hid be2
  clear be2 bb2 hb2 BE1 c1_t_0 c1_t_1 c1_t_2 c1_t_3 c1_t_4 l1_t m1_t c1_c_0 c1_c_1 c1_c_2 c1_c_3 c1_c_4 c1_c_5 c1_c_6 c1_c_7 l1_c m1_c HT1 HC1 HL1 HH1 HE1
  go_wp2_with fail
  refine (ordered_calls q1 q2 cap1 cap2 lo hi _ (by omega) (HL2.out.below (by repeat (first | exact Below.refl _ _ | assumption | refine below_drewN ?_ _ | refine Below.setCell ?_ (by first | (simp; done) | (simp; omega)) _ | refine Below.alloc ?_ (by first | (simp; done) | (simp; omega) | omega) _ | refine Below.drew ?_ | refine Below.trans ?_ (Below.mono (by assumption) (by first | (simp; done) | (simp; omega) | omega))))) (HH2.out.below (by repeat (first | exact Below.refl _ _ | assumption | refine below_drewN ?_ _ | refine Below.setCell ?_ (by first | (simp; done) | (simp; omega)) _ | refine Below.alloc ?_ (by first | (simp; done) | (simp; omega) | omega) _ | refine Below.drew ?_ | refine Below.trans ?_ (Below.mono (by assumption) (by first | (simp; done) | (simp; omega) | omega)))))).mono ?_
  rintro e w3 ⟨rfl, hb3⟩
  rw [HO.out]
  have hz3 := hb3.size
  (try simp at hz3)
  have bb3 : Below w2.heap.size w2 w3 := (by repeat (first | exact Below.refl _ _ | assumption | refine below_drewN ?_ _ | refine Below.setCell ?_ (by first | (simp; done) | (simp; omega)) _ | refine Below.alloc ?_ (by first | (simp; done) | (simp; omega) | omega) _ | refine Below.drew ?_ | refine Below.trans ?_ (Below.mono (by assumption) (by first | (simp; done) | (simp; omega) | omega))))
  have be3 : Below w.heap.size w w3 := BE2.out.trans (bb3.mono BE2.out.size)
  have c3_t_0 : w3.cell? ⟨w.heap.size, 0, none⟩ = some (.int .i64 t.kd) := cell_keep bb3 c2_t_0
  have c3_t_1 : w3.cell? ⟨w.heap.size, 1, none⟩ = some (.int .i64 t.n) := cell_keep bb3 c2_t_1
  have c3_t_2 : w3.cell? ⟨w.heap.size, 2, none⟩ = some (.int .i64 t.ev) := cell_keep bb3 c2_t_2
  have c3_t_3 : w3.cell? ⟨w.heap.size, 3, none⟩ = some (.bool t.bz) := cell_keep bb3 c2_t_3
  have c3_t_4 : w3.cell? ⟨w.heap.size, 4, none⟩ = some (.slice t.p t.kids.length t.cap) := cell_keep bb3 c2_t_4
  have l3_t : w.heap.size < w3.heap.size := by omega
  have m3_t : w.heap.size < w3.heap.size + 1 := by omega
  have c3_c_0 : w3.cell? ⟨w.heap.size + 1, 0, none⟩ = some (.bool c.b0) := cell_keep bb3 c2_c_0
  have c3_c_1 : w3.cell? ⟨w.heap.size + 1, 1, none⟩ = some (.bool c.b1) := cell_keep bb3 c2_c_1
  have c3_c_2 : w3.cell? ⟨w.heap.size + 1, 2, none⟩ = some (.bool c.b2) := cell_keep bb3 c2_c_2
  have c3_c_3 : w3.cell? ⟨w.heap.size + 1, 3, none⟩ = some (.bool c.b3) := cell_keep bb3 c2_c_3
  have c3_c_4 : w3.cell? ⟨w.heap.size + 1, 4, none⟩ = some (.bool c.b4) := cell_keep bb3 c2_c_4
  have c3_c_5 : w3.cell? ⟨w.heap.size + 1, 5, none⟩ = some (.bool c.b5) := cell_keep bb3 c2_c_5
  have c3_c_6 : w3.cell? ⟨w.heap.size + 1, 6, none⟩ = some (.bool c.b6) := cell_keep bb3 c2_c_6
  have c3_c_7 : w3.cell? ⟨w.heap.size + 1, 7, none⟩ = some (.slice c.p c.hs.length c.cap) := cell_keep bb3 c2_c_7
  have l3_c : w.heap.size + 1 < w3.heap.size := by omega
  have m3_c : w.heap.size + 1 < w3.heap.size + 1 := by omega
  have HT3 := Lib.hid (HT2.out.below bb3)
  have HC3 := Lib.hid (HC2.out.below bb3)
  have HL3 := Lib.hid (HL2.out.below bb3)
  have HH3 := Lib.hid (HH2.out.below bb3)
  have HE3 := Lib.hid (HE2.out.below bb3)
  have BE3 := Lib.hid be3
  clear be3 bb3 hb3 BE2 c2_t_0 c2_t_1 c2_t_2 c2_t_3 c2_t_4 l2_t m2_t c2_c_0 c2_c_1 c2_c_2 c2_c_3 c2_c_4 c2_c_5 c2_c_6 c2_c_7 l2_c m2_c HT2 HC2 HL2 HH2 HE2
  go_wp2_with fail
  refine (eval_at t c q1 cap1 lo _ (HT3.out.below (by repeat (first | exact Below.refl _ _ | assumption | refine below_drewN ?_ _ | refine Below.setCell ?_ (by first | (simp; done) | (simp; omega)) _ | refine Below.alloc ?_ (by first | (simp; done) | (simp; omega) | omega) _ | refine Below.drew ?_ | refine Below.trans ?_ (Below.mono (by assumption) (by first | (simp; done) | (simp; omega) | omega))))) (HC3.out.below (by repeat (first | exact Below.refl _ _ | assumption | refine below_drewN ?_ _ | refine Below.setCell ?_ (by first | (simp; done) | (simp; omega)) _ | refine Below.alloc ?_ (by first | (simp; done) | (simp; omega) | omega) _ | refine Below.drew ?_ | refine Below.trans ?_ (Below.mono (by assumption) (by first | (simp; done) | (simp; omega) | omega))))) (HL3.out.below (by repeat (first | exact Below.refl _ _ | assumption | refine below_drewN ?_ _ | refine Below.setCell ?_ (by first | (simp; done) | (simp; omega)) _ | refine Below.alloc ?_ (by first | (simp; done) | (simp; omega) | omega) _ | refine Below.drew ?_ | refine Below.trans ?_ (Below.mono (by assumption) (by first | (simp; done) | (simp; omega) | omega))))) (by omega) (HE3.out.below (by repeat (first | exact Below.refl _ _ | assumption | refine below_drewN ?_ _ | refine Below.setCell ?_ (by first | (simp; done) | (simp; omega)) _ | refine Below.alloc ?_ (by first | (simp; done) | (simp; omega) | omega) _ | refine Below.drew ?_ | refine Below.trans ?_ (Below.mono (by assumption) (by first | (simp; done) | (simp; omega) | omega)))))).mono ?_
  rintro e w4 ⟨rfl, hb4⟩
  rw [HA.out]
  simp only [R3]
  have hz4 := hb4.size
  (try simp at hz4)
  have bb4 : Below w3.heap.size w3 w4 := (by repeat (first | exact Below.refl _ _ | assumption | refine below_drewN ?_ _ | refine Below.setCell ?_ (by first | (simp; done) | (simp; omega)) _ | refine Below.alloc ?_ (by first | (simp; done) | (simp; omega) | omega) _ | refine Below.drew ?_ | refine Below.trans ?_ (Below.mono (by assumption) (by first | (simp; done) | (simp; omega) | omega))))
  have be4 : Below w.heap.size w w4 := BE3.out.trans (bb4.mono BE3.out.size)
  have c4_t_0 : w4.cell? ⟨w.heap.size, 0, none⟩ = some (.int .i64 t.kd) := cell_keep bb4 c3_t_0
  have c4_t_1 : w4.cell? ⟨w.heap.size, 1, none⟩ = some (.int .i64 t.n) := cell_keep bb4 c3_t_1
  have c4_t_2 : w4.cell? ⟨w.heap.size, 2, none⟩ = some (.int .i64 t.ev) := cell_keep bb4 c3_t_2
  have c4_t_3 : w4.cell? ⟨w.heap.size, 3, none⟩ = some (.bool t.bz) := cell_keep bb4 c3_t_3
  have c4_t_4 : w4.cell? ⟨w.heap.size, 4, none⟩ = some (.slice t.p t.kids.length t.cap) := cell_keep bb4 c3_t_4
  have l4_t : w.heap.size < w4.heap.size := by omega
  have m4_t : w.heap.size < w4.heap.size + 1 := by omega
  have c4_c_0 : w4.cell? ⟨w.heap.size + 1, 0, none⟩ = some (.bool c.b0) := cell_keep bb4 c3_c_0
  have c4_c_1 : w4.cell? ⟨w.heap.size + 1, 1, none⟩ = some (.bool c.b1) := cell_keep bb4 c3_c_1
  have c4_c_2 : w4.cell? ⟨w.heap.size + 1, 2, none⟩ = some (.bool c.b2) := cell_keep bb4 c3_c_2
  have c4_c_3 : w4.cell? ⟨w.heap.size + 1, 3, none⟩ = some (.bool c.b3) := cell_keep bb4 c3_c_3
  have c4_c_4 : w4.cell? ⟨w.heap.size + 1, 4, none⟩ = some (.bool c.b4) := cell_keep bb4 c3_c_4
  have c4_c_5 : w4.cell? ⟨w.heap.size + 1, 5, none⟩ = some (.bool c.b5) := cell_keep bb4 c3_c_5
  have c4_c_6 : w4.cell? ⟨w.heap.size + 1, 6, none⟩ = some (.bool c.b6) := cell_keep bb4 c3_c_6
  have c4_c_7 : w4.cell? ⟨w.heap.size + 1, 7, none⟩ = some (.slice c.p c.hs.length c.cap) := cell_keep bb4 c3_c_7
  have l4_c : w.heap.size + 1 < w4.heap.size := by omega
  have m4_c : w.heap.size + 1 < w4.heap.size + 1 := by omega
  have HT4 := Lib.hid (HT3.out.below bb4)
  have HC4 := Lib.hid (HC3.out.below bb4)
  have HL4 := Lib.hid (HL3.out.below bb4)
  have HH4 := Lib.hid (HH3.out.below bb4)
  have HE4 := Lib.hid (HE3.out.below bb4)
  have BE4 := Lib.hid be4
  clear be4 bb4 hb4 BE3 c3_t_0 c3_t_1 c3_t_2 c3_t_3 c3_t_4 l3_t m3_t c3_c_0 c3_c_1 c3_c_2 c3_c_3 c3_c_4 c3_c_5 c3_c_6 c3_c_7 l3_c m3_c HT3 HC3 HL3 HH3 HE3
  go_wp2_with fail
  refine (eval_at t c q2 cap2 hi _ (HT4.out.below (by repeat (first | exact Below.refl _ _ | assumption | refine below_drewN ?_ _ | refine Below.setCell ?_ (by first | (simp; done) | (simp; omega)) _ | refine Below.alloc ?_ (by first | (simp; done) | (simp; omega) | omega) _ | refine Below.drew ?_ | refine Below.trans ?_ (Below.mono (by assumption) (by first | (simp; done) | (simp; omega) | omega))))) (HC4.out.below (by repeat (first | exact Below.refl _ _ | assumption | refine below_drewN ?_ _ | refine Below.setCell ?_ (by first | (simp; done) | (simp; omega)) _ | refine Below.alloc ?_ (by first | (simp; done) | (simp; omega) | omega) _ | refine Below.drew ?_ | refine Below.trans ?_ (Below.mono (by assumption) (by first | (simp; done) | (simp; omega) | omega))))) (HH4.out.below (by repeat (first | exact Below.refl _ _ | assumption | refine below_drewN ?_ _ | refine Below.setCell ?_ (by first | (simp; done) | (simp; omega)) _ | refine Below.alloc ?_ (by first | (simp; done) | (simp; omega) | omega) _ | refine Below.drew ?_ | refine Below.trans ?_ (Below.mono (by assumption) (by first | (simp; done) | (simp; omega) | omega))))) (by omega) (HE4.out.below (by repeat (first | exact Below.refl _ _ | assumption | refine below_drewN ?_ _ | refine Below.setCell ?_ (by first | (simp; done) | (simp; omega)) _ | refine Below.alloc ?_ (by first | (simp; done) | (simp; omega) | omega) _ | refine Below.drew ?_ | refine Below.trans ?_ (Below.mono (by assumption) (by first | (simp; done) | (simp; omega) | omega)))))).mono ?_
  rintro e w5 ⟨rfl, hb5⟩
  rw [HB.out]
  simp only [R3]
  have hz5 := hb5.size
  (try simp at hz5)
  have bb5 : Below w4.heap.size w4 w5 := (by repeat (first | exact Below.refl _ _ | assumption | refine below_drewN ?_ _ | refine Below.setCell ?_ (by first | (simp; done) | (simp; omega)) _ | refine Below.alloc ?_ (by first | (simp; done) | (simp; omega) | omega) _ | refine Below.drew ?_ | refine Below.trans ?_ (Below.mono (by assumption) (by first | (simp; done) | (simp; omega) | omega))))
  have be5 : Below w.heap.size w w5 := BE4.out.trans (bb5.mono BE4.out.size)
  have c5_t_0 : w5.cell? ⟨w.heap.size, 0, none⟩ = some (.int .i64 t.kd) := cell_keep bb5 c4_t_0
  have c5_t_1 : w5.cell? ⟨w.heap.size, 1, none⟩ = some (.int .i64 t.n) := cell_keep bb5 c4_t_1
  have c5_t_2 : w5.cell? ⟨w.heap.size, 2, none⟩ = some (.int .i64 t.ev) := cell_keep bb5 c4_t_2
  have c5_t_3 : w5.cell? ⟨w.heap.size, 3, none⟩ = some (.bool t.bz) := cell_keep bb5 c4_t_3
  have c5_t_4 : w5.cell? ⟨w.heap.size, 4, none⟩ = some (.slice t.p t.kids.length t.cap) := cell_keep bb5 c4_t_4
  have l5_t : w.heap.size < w5.heap.size := by omega
  have m5_t : w.heap.size < w5.heap.size + 1 := by omega
  have c5_c_0 : w5.cell? ⟨w.heap.size + 1, 0, none⟩ = some (.bool c.b0) := cell_keep bb5 c4_c_0
  have c5_c_1 : w5.cell? ⟨w.heap.size + 1, 1, none⟩ = some (.bool c.b1) := cell_keep bb5 c4_c_1
  have c5_c_2 : w5.cell? ⟨w.heap.size + 1, 2, none⟩ = some (.bool c.b2) := cell_keep bb5 c4_c_2
  have c5_c_3 : w5.cell? ⟨w.heap.size + 1, 3, none⟩ = some (.bool c.b3) := cell_keep bb5 c4_c_3
  have c5_c_4 : w5.cell? ⟨w.heap.size + 1, 4, none⟩ = some (.bool c.b4) := cell_keep bb5 c4_c_4
  have c5_c_5 : w5.cell? ⟨w.heap.size + 1, 5, none⟩ = some (.bool c.b5) := cell_keep bb5 c4_c_5
  have c5_c_6 : w5.cell? ⟨w.heap.size + 1, 6, none⟩ = some (.bool c.b6) := cell_keep bb5 c4_c_6
  have c5_c_7 : w5.cell? ⟨w.heap.size + 1, 7, none⟩ = some (.slice c.p c.hs.length c.cap) := cell_keep bb5 c4_c_7
  have l5_c : w.heap.size + 1 < w5.heap.size := by omega
  have m5_c : w.heap.size + 1 < w5.heap.size + 1 := by omega
  have HT5 := Lib.hid (HT4.out.below bb5)
  have HC5 := Lib.hid (HC4.out.below bb5)
  have HL5 := Lib.hid (HL4.out.below bb5)
  have HH5 := Lib.hid (HH4.out.below bb5)
  have HE5 := Lib.hid (HE4.out.below bb5)
  have BE5 := Lib.hid be5
  clear be5 bb5 hb5 BE4 c4_t_0 c4_t_1 c4_t_2 c4_t_3 c4_t_4 l4_t m4_t c4_c_0 c4_c_1 c4_c_2 c4_c_3 c4_c_4 c4_c_5 c4_c_6 c4_c_7 l4_c m4_c HT4 HC4 HL4 HH4 HE4
  go_wp2_with fail
  go_ret
  exact ⟨rfl, (by have q := BE5.out; repeat (first | exact q | refine Below.setCell ?_ (by first | (simp; done) | omega | (simp; omega)) _ | refine Below.alloc ?_ (by first | (simp; done) | omega | (simp; omega)) _ | refine below_drewN ?_ _ | refine Below.drew ?_))⟩
set_option maxRecDepth 100000 in
set_option maxHeartbeats 1600000 in
theorem mo_f2 (t : Dl.T) (c : Cal) (q1 q2 : Option Addr) (cap1 cap2 : Nat) (lo hi : List Wh) (a e : Int) (ok : Bool) (w : World) (ht : TAt w t) (hn : LenOK t) (hc : CalIn w c) (hl : EvAt w q1 lo) (hh : EvAt w q2 hi) (he : Env w) (hs : smallB t lo = true) (hln : lo.length ≤ 40) (hlh : hi.length ≤ 40) (ho : ordL lo hi = true) (ha : evalS t c lo = (a, ok, e)) (hb : evalS t c hi = (0, false, 2)) :
    Calls Tryd.prog 3 #[.agg #[.int .i64 t.kd, .int .i64 t.n, .int .i64 t.ev, .bool t.bz, .slice t.p t.kids.length t.cap], .agg #[.bool c.b0, .bool c.b1, .bool c.b2, .bool c.b3, .bool c.b4, .bool c.b5, .bool c.b6, .slice c.p c.hs.length c.cap], .slice q1 lo.length cap1, .slice q2 hi.length cap2] w fun e w' => e = .returned (.bool true) ∧ Below w.heap.size w w' := by
  have HT0 := Lib.hid ht
  clear ht
  have HC0 := Lib.hid hc
  clear hc
  have HL0 := Lib.hid hl
  clear hl
  have HH0 := Lib.hid hh
  clear hh
  have HE0 := Lib.hid he
  clear he
  have HN := Lib.hid hn
  clear hn
  have HS := Lib.hid hs
  clear hs
  have HO := Lib.hid ho
  clear ho
  have HA := Lib.hid ha
  clear ha
  have HB := Lib.hid hb
  clear hb
  go_enter Tryd.func3, Tryd.ntmps3
  go_wp2_with fail
  refine (head_any _ (HE0.out.below (by repeat (first | exact Below.refl _ _ | assumption | refine below_drewN ?_ _ | refine Below.setCell ?_ (by first | (simp; done) | (simp; omega)) _ | refine Below.alloc ?_ (by first | (simp; done) | (simp; omega) | omega) _ | refine Below.drew ?_ | refine Below.trans ?_ (Below.mono (by assumption) (by first | (simp; done) | (simp; omega) | omega)))))).mono ?_
  rintro e w1 ⟨rfl, hb1⟩
  have hz1 := hb1.size
  (try simp at hz1)
  have bb1 : Below w.heap.size w w1 := (by repeat (first | exact Below.refl _ _ | assumption | refine below_drewN ?_ _ | refine Below.setCell ?_ (by first | (simp; done) | (simp; omega)) _ | refine Below.alloc ?_ (by first | (simp; done) | (simp; omega) | omega) _ | refine Below.drew ?_ | refine Below.trans ?_ (Below.mono (by assumption) (by first | (simp; done) | (simp; omega) | omega))))
  have be1 : Below w.heap.size w w1 := bb1
  have c1_t_0 : w1.cell? ⟨w.heap.size, 0, none⟩ = some (.int .i64 t.kd) := cell_keep hb1 (by go_simp)
  have c1_t_1 : w1.cell? ⟨w.heap.size, 1, none⟩ = some (.int .i64 t.n) := cell_keep hb1 (by go_simp)
  have c1_t_2 : w1.cell? ⟨w.heap.size, 2, none⟩ = some (.int .i64 t.ev) := cell_keep hb1 (by go_simp)
  have c1_t_3 : w1.cell? ⟨w.heap.size, 3, none⟩ = some (.bool t.bz) := cell_keep hb1 (by go_simp)
  have c1_t_4 : w1.cell? ⟨w.heap.size, 4, none⟩ = some (.slice t.p t.kids.length t.cap) := cell_keep hb1 (by go_simp)
  have l1_t : w.heap.size < w1.heap.size := by omega
  have m1_t : w.heap.size < w1.heap.size + 1 := by omega
  have c1_c_0 : w1.cell? ⟨w.heap.size + 1, 0, none⟩ = some (.bool c.b0) := cell_keep hb1 (by go_simp)
  have c1_c_1 : w1.cell? ⟨w.heap.size + 1, 1, none⟩ = some (.bool c.b1) := cell_keep hb1 (by go_simp)
  have c1_c_2 : w1.cell? ⟨w.heap.size + 1, 2, none⟩ = some (.bool c.b2) := cell_keep hb1 (by go_simp)
  have c1_c_3 : w1.cell? ⟨w.heap.size + 1, 3, none⟩ = some (.bool c.b3) := cell_keep hb1 (by go_simp)
  have c1_c_4 : w1.cell? ⟨w.heap.size + 1, 4, none⟩ = some (.bool c.b4) := cell_keep hb1 (by go_simp)
  have c1_c_5 : w1.cell? ⟨w.heap.size + 1, 5, none⟩ = some (.bool c.b5) := cell_keep hb1 (by go_simp)
  have c1_c_6 : w1.cell? ⟨w.heap.size + 1, 6, none⟩ = some (.bool c.b6) := cell_keep hb1 (by go_simp)
  have c1_c_7 : w1.cell? ⟨w.heap.size + 1, 7, none⟩ = some (.slice c.p c.hs.length c.cap) := cell_keep hb1 (by go_simp)
  have l1_c : w.heap.size + 1 < w1.heap.size := by omega
  have m1_c : w.heap.size + 1 < w1.heap.size + 1 := by omega
  have HT1 := Lib.hid (HT0.out.below bb1)
  have HC1 := Lib.hid (HC0.out.below bb1)
  have HL1 := Lib.hid (HL0.out.below bb1)
  have HH1 := Lib.hid (HH0.out.below bb1)
  have HE1 := Lib.hid (HE0.out.below bb1)
  have BE1 := Lib.hid be1
  clear be1 bb1 hb1 HT0 HC0 HL0 HH0 HE0
  go_wp2_with fail
  refine (small_any t q1 lo cap1 _ HN.out (HT1.out.below (by repeat (first | exact Below.refl _ _ | assumption | refine below_drewN ?_ _ | refine Below.setCell ?_ (by first | (simp; done) | (simp; omega)) _ | refine Below.alloc ?_ (by first | (simp; done) | (simp; omega) | omega) _ | refine Below.drew ?_ | refine Below.trans ?_ (Below.mono (by assumption) (by first | (simp; done) | (simp; omega) | omega)))))).mono ?_
  rintro e w2 ⟨rfl, hb2⟩
  rw [HS.out]
  have hz2 := hb2.size
  (try simp at hz2)
  have bb2 : Below w1.heap.size w1 w2 := (by repeat (first | exact Below.refl _ _ | assumption | refine below_drewN ?_ _ | refine Below.setCell ?_ (by first | (simp; done) | (simp; omega)) _ | refine Below.alloc ?_ (by first | (simp; done) | (simp; omega) | omega) _ | refine Below.drew ?_ | refine Below.trans ?_ (Below.mono (by assumption) (by first | (simp; done) | (simp; omega) | omega))))
  have be2 : Below w.heap.size w w2 := BE1.out.trans (bb2.mono BE1.out.size)
  have c2_t_0 : w2.cell? ⟨w.heap.size, 0, none⟩ = some (.int .i64 t.kd) := cell_keep bb2 c1_t_0
  have c2_t_1 : w2.cell? ⟨w.heap.size, 1, none⟩ = some (.int .i64 t.n) := cell_keep bb2 c1_t_1
  have c2_t_2 : w2.cell? ⟨w.heap.size, 2, none⟩ = some (.int .i64 t.ev) := cell_keep bb2 c1_t_2
  have c2_t_3 : w2.cell? ⟨w.heap.size, 3, none⟩ = some (.bool t.bz) := cell_keep bb2 c1_t_3
  have c2_t_4 : w2.cell? ⟨w.heap.size, 4, none⟩ = some (.slice t.p t.kids.length t.cap) := cell_keep bb2 c1_t_4
  have l2_t : w.heap.size < w2.heap.size := by omega
  have m2_t : w.heap.size < w2.heap.size + 1 := by omega
  have c2_c_0 : w2.cell? ⟨w.heap.size + 1, 0, none⟩ = some (.bool c.b0) := cell_keep bb2 c1_c_0
  have c2_c_1 : w2.cell? ⟨w.heap.size + 1, 1, none⟩ = some (.bool c.b1) := cell_keep bb2 c1_c_1
  have c2_c_2 : w2.cell? ⟨w.heap.size + 1, 2, none⟩ = some (.bool c.b2) := cell_keep bb2 c1_c_2
  have c2_c_3 : w2.cell? ⟨w.heap.size + 1, 3, none⟩ = some (.bool c.b3) := cell_keep bb2 c1_c_3
  have c2_c_4 : w2.cell? ⟨w.heap.size + 1, 4, none⟩ = some (.bool c.b4) := cell_keep bb2 c1_c_4
  have c2_c_5 : w2.cell? ⟨w.heap.size + 1, 5, none⟩ = some (.bool c.b5) := cell_keep bb2 c1_c_5
  have c2_c_6 : w2.cell? ⟨w.heap.size + 1, 6, none⟩ = some (.bool c.b6) := cell_keep bb2 c1_c_6
  have c2_c_7 : w2.cell? ⟨w.heap.size + 1, 7, none⟩ = some (.slice c.p c.hs.length c.cap) := cell_keep bb2 c1_c_7
  have l2_c : w.heap.size + 1 < w2.heap.size := by omega
  have m2_c : w.heap.size + 1 < w2.heap.size + 1 := by omega
  have HT2 := Lib.hid (HT1.out.below bb2)
  have HC2 := Lib.hid (HC1.out.below bb2)
  have HL2 := Lib.hid (HL1.out.below bb2)
  have HH2 := Lib.hid (HH1.out.below bb2)
  have HE2 := Lib.hid (HE1.out.below bb2)
  have BE2 := Lib.hid be2
  clear be2 bb2 hb2 BE1 c1_t_0 c1_t_1 c1_t_2 c1_t_3 c1_t_4 l1_t m1_t c1_c_0 c1_c_1 c1_c_2 c1_c_3 c1_c_4 c1_c_5 c1_c_6 c1_c_7 l1_c m1_c HT1 HC1 HL1 HH1 HE1
  go_wp2_with fail
  refine (ordered_calls q1 q2 cap1 cap2 lo hi _ (by omega) (HL2.out.below (by repeat (first | exact Below.refl _ _ | assumption | refine below_drewN ?_ _ | refine Below.setCell ?_ (by first | (simp; done) | (simp; omega)) _ | refine Below.alloc ?_ (by first | (simp; done) | (simp; omega) | omega) _ | refine Below.drew ?_ | refine Below.trans ?_ (Below.mono (by assumption) (by first | (simp; done) | (simp; omega) | omega))))) (HH2.out.below (by repeat (first | exact Below.refl _ _ | assumption | refine below_drewN ?_ _ | refine Below.setCell ?_ (by first | (simp; done) | (simp; omega)) _ | refine Below.alloc ?_ (by first | (simp; done) | (simp; omega) | omega) _ | refine Below.drew ?_ | refine Below.trans ?_ (Below.mono (by assumption) (by first | (simp; done) | (simp; omega) | omega)))))).mono ?_
  rintro e w3 ⟨rfl, hb3⟩
  rw [HO.out]
  have hz3 := hb3.size
  (try simp at hz3)
  have bb3 : Below w2.heap.size w2 w3 := (by repeat (first | exact Below.refl _ _ | assumption | refine below_drewN ?_ _ | refine Below.setCell ?_ (by first | (simp; done) | (simp; omega)) _ | refine Below.alloc ?_ (by first | (simp; done) | (simp; omega) | omega) _ | refine Below.drew ?_ | refine Below.trans ?_ (Below.mono (by assumption) (by first | (simp; done) | (simp; omega) | omega))))
  have be3 : Below w.heap.size w w3 := BE2.out.trans (bb3.mono BE2.out.size)
  have c3_t_0 : w3.cell? ⟨w.heap.size, 0, none⟩ = some (.int .i64 t.kd) := cell_keep bb3 c2_t_0
  have c3_t_1 : w3.cell? ⟨w.heap.size, 1, none⟩ = some (.int .i64 t.n) := cell_keep bb3 c2_t_1
  have c3_t_2 : w3.cell? ⟨w.heap.size, 2, none⟩ = some (.int .i64 t.ev) := cell_keep bb3 c2_t_2
  have c3_t_3 : w3.cell? ⟨w.heap.size, 3, none⟩ = some (.bool t.bz) := cell_keep bb3 c2_t_3
  have c3_t_4 : w3.cell? ⟨w.heap.size, 4, none⟩ = some (.slice t.p t.kids.length t.cap) := cell_keep bb3 c2_t_4
  have l3_t : w.heap.size < w3.heap.size := by omega
  have m3_t : w.heap.size < w3.heap.size + 1 := by omega
  have c3_c_0 : w3.cell? ⟨w.heap.size + 1, 0, none⟩ = some (.bool c.b0) := cell_keep bb3 c2_c_0
  have c3_c_1 : w3.cell? ⟨w.heap.size + 1, 1, none⟩ = some (.bool c.b1) := cell_keep bb3 c2_c_1
  have c3_c_2 : w3.cell? ⟨w.heap.size + 1, 2, none⟩ = some (.bool c.b2) := cell_keep bb3 c2_c_2
  have c3_c_3 : w3.cell? ⟨w.heap.size + 1, 3, none⟩ = some (.bool c.b3) := cell_keep bb3 c2_c_3
  have c3_c_4 : w3.cell? ⟨w.heap.size + 1, 4, none⟩ = some (.bool c.b4) := cell_keep bb3 c2_c_4
  have c3_c_5 : w3.cell? ⟨w.heap.size + 1, 5, none⟩ = some (.bool c.b5) := cell_keep bb3 c2_c_5
  have c3_c_6 : w3.cell? ⟨w.heap.size + 1, 6, none⟩ = some (.bool c.b6) := cell_keep bb3 c2_c_6
  have c3_c_7 : w3.cell? ⟨w.heap.size + 1, 7, none⟩ = some (.slice c.p c.hs.length c.cap) := cell_keep bb3 c2_c_7
  have l3_c : w.heap.size + 1 < w3.heap.size := by omega
  have m3_c : w.heap.size + 1 < w3.heap.size + 1 := by omega
  have HT3 := Lib.hid (HT2.out.below bb3)
  have HC3 := Lib.hid (HC2.out.below bb3)
  have HL3 := Lib.hid (HL2.out.below bb3)
  have HH3 := Lib.hid (HH2.out.below bb3)
  have HE3 := Lib.hid (HE2.out.below bb3)
  have BE3 := Lib.hid be3
  clear be3 bb3 hb3 BE2 c2_t_0 c2_t_1 c2_t_2 c2_t_3 c2_t_4 l2_t m2_t c2_c_0 c2_c_1 c2_c_2 c2_c_3 c2_c_4 c2_c_5 c2_c_6 c2_c_7 l2_c m2_c HT2 HC2 HL2 HH2 HE2
  go_wp2_with fail
  refine (eval_at t c q1 cap1 lo _ (HT3.out.below (by repeat (first | exact Below.refl _ _ | assumption | refine below_drewN ?_ _ | refine Below.setCell ?_ (by first | (simp; done) | (simp; omega)) _ | refine Below.alloc ?_ (by first | (simp; done) | (simp; omega) | omega) _ | refine Below.drew ?_ | refine Below.trans ?_ (Below.mono (by assumption) (by first | (simp; done) | (simp; omega) | omega))))) (HC3.out.below (by repeat (first | exact Below.refl _ _ | assumption | refine below_drewN ?_ _ | refine Below.setCell ?_ (by first | (simp; done) | (simp; omega)) _ | refine Below.alloc ?_ (by first | (simp; done) | (simp; omega) | omega) _ | refine Below.drew ?_ | refine Below.trans ?_ (Below.mono (by assumption) (by first | (simp; done) | (simp; omega) | omega))))) (HL3.out.below (by repeat (first | exact Below.refl _ _ | assumption | refine below_drewN ?_ _ | refine Below.setCell ?_ (by first | (simp; done) | (simp; omega)) _ | refine Below.alloc ?_ (by first | (simp; done) | (simp; omega) | omega) _ | refine Below.drew ?_ | refine Below.trans ?_ (Below.mono (by assumption) (by first | (simp; done) | (simp; omega) | omega))))) (by omega) (HE3.out.below (by repeat (first | exact Below.refl _ _ | assumption | refine below_drewN ?_ _ | refine Below.setCell ?_ (by first | (simp; done) | (simp; omega)) _ | refine Below.alloc ?_ (by first | (simp; done) | (simp; omega) | omega) _ | refine Below.drew ?_ | refine Below.trans ?_ (Below.mono (by assumption) (by first | (simp; done) | (simp; omega) | omega)))))).mono ?_
  rintro e w4 ⟨rfl, hb4⟩
  rw [HA.out]
  simp only [R3]
  have hz4 := hb4.size
  (try simp at hz4)
  have bb4 : Below w3.heap.size w3 w4 := (by repeat (first | exact Below.refl _ _ | assumption | refine below_drewN ?_ _ | refine Below.setCell ?_ (by first | (simp; done) | (simp; omega)) _ | refine Below.alloc ?_ (by first | (simp; done) | (simp; omega) | omega) _ | refine Below.drew ?_ | refine Below.trans ?_ (Below.mono (by assumption) (by first | (simp; done) | (simp; omega) | omega))))
  have be4 : Below w.heap.size w w4 := BE3.out.trans (bb4.mono BE3.out.size)
  have c4_t_0 : w4.cell? ⟨w.heap.size, 0, none⟩ = some (.int .i64 t.kd) := cell_keep bb4 c3_t_0
  have c4_t_1 : w4.cell? ⟨w.heap.size, 1, none⟩ = some (.int .i64 t.n) := cell_keep bb4 c3_t_1
  have c4_t_2 : w4.cell? ⟨w.heap.size, 2, none⟩ = some (.int .i64 t.ev) := cell_keep bb4 c3_t_2
  have c4_t_3 : w4.cell? ⟨w.heap.size, 3, none⟩ = some (.bool t.bz) := cell_keep bb4 c3_t_3
  have c4_t_4 : w4.cell? ⟨w.heap.size, 4, none⟩ = some (.slice t.p t.kids.length t.cap) := cell_keep bb4 c3_t_4
  have l4_t : w.heap.size < w4.heap.size := by omega
  have m4_t : w.heap.size < w4.heap.size + 1 := by omega
  have c4_c_0 : w4.cell? ⟨w.heap.size + 1, 0, none⟩ = some (.bool c.b0) := cell_keep bb4 c3_c_0
  have c4_c_1 : w4.cell? ⟨w.heap.size + 1, 1, none⟩ = some (.bool c.b1) := cell_keep bb4 c3_c_1
  have c4_c_2 : w4.cell? ⟨w.heap.size + 1, 2, none⟩ = some (.bool c.b2) := cell_keep bb4 c3_c_2
  have c4_c_3 : w4.cell? ⟨w.heap.size + 1, 3, none⟩ = some (.bool c.b3) := cell_keep bb4 c3_c_3
  have c4_c_4 : w4.cell? ⟨w.heap.size + 1, 4, none⟩ = some (.bool c.b4) := cell_keep bb4 c3_c_4
  have c4_c_5 : w4.cell? ⟨w.heap.size + 1, 5, none⟩ = some (.bool c.b5) := cell_keep bb4 c3_c_5
  have c4_c_6 : w4.cell? ⟨w.heap.size + 1, 6, none⟩ = some (.bool c.b6) := cell_keep bb4 c3_c_6
  have c4_c_7 : w4.cell? ⟨w.heap.size + 1, 7, none⟩ = some (.slice c.p c.hs.length c.cap) := cell_keep bb4 c3_c_7
  have l4_c : w.heap.size + 1 < w4.heap.size := by omega
  have m4_c : w.heap.size + 1 < w4.heap.size + 1 := by omega
  have HT4 := Lib.hid (HT3.out.below bb4)
  have HC4 := Lib.hid (HC3.out.below bb4)
  have HL4 := Lib.hid (HL3.out.below bb4)
  have HH4 := Lib.hid (HH3.out.below bb4)
  have HE4 := Lib.hid (HE3.out.below bb4)
  have BE4 := Lib.hid be4
  clear be4 bb4 hb4 BE3 c3_t_0 c3_t_1 c3_t_2 c3_t_3 c3_t_4 l3_t m3_t c3_c_0 c3_c_1 c3_c_2 c3_c_3 c3_c_4 c3_c_5 c3_c_6 c3_c_7 l3_c m3_c HT3 HC3 HL3 HH3 HE3
  go_wp2_with fail
  refine (eval_at t c q2 cap2 hi _ (HT4.out.below (by repeat (first | exact Below.refl _ _ | assumption | refine below_drewN ?_ _ | refine Below.setCell ?_ (by first | (simp; done) | (simp; omega)) _ | refine Below.alloc ?_ (by first | (simp; done) | (simp; omega) | omega) _ | refine Below.drew ?_ | refine Below.trans ?_ (Below.mono (by assumption) (by first | (simp; done) | (simp; omega) | omega))))) (HC4.out.below (by repeat (first | exact Below.refl _ _ | assumption | refine below_drewN ?_ _ | refine Below.setCell ?_ (by first | (simp; done) | (simp; omega)) _ | refine Below.alloc ?_ (by first | (simp; done) | (simp; omega) | omega) _ | refine Below.drew ?_ | refine Below.trans ?_ (Below.mono (by assumption) (by first | (simp; done) | (simp; omega) | omega))))) (HH4.out.below (by repeat (first | exact Below.refl _ _ | assumption | refine below_drewN ?_ _ | refine Below.setCell ?_ (by first | (simp; done) | (simp; omega)) _ | refine Below.alloc ?_ (by first | (simp; done) | (simp; omega) | omega) _ | refine Below.drew ?_ | refine Below.trans ?_ (Below.mono (by assumption) (by first | (simp; done) | (simp; omega) | omega))))) (by omega) (HE4.out.below (by repeat (first | exact Below.refl _ _ | assumption | refine below_drewN ?_ _ | refine Below.setCell ?_ (by first | (simp; done) | (simp; omega)) _ | refine Below.alloc ?_ (by first | (simp; done) | (simp; omega) | omega) _ | refine Below.drew ?_ | refine Below.trans ?_ (Below.mono (by assumption) (by first | (simp; done) | (simp; omega) | omega)))))).mono ?_
  rintro e w5 ⟨rfl, hb5⟩
  rw [HB.out]
  simp only [R3]
  have hz5 := hb5.size
  (try simp at hz5)
  have bb5 : Below w4.heap.size w4 w5 := (by repeat (first | exact Below.refl _ _ | assumption | refine below_drewN ?_ _ | refine Below.setCell ?_ (by first | (simp; done) | (simp; omega)) _ | refine Below.alloc ?_ (by first | (simp; done) | (simp; omega) | omega) _ | refine Below.drew ?_ | refine Below.trans ?_ (Below.mono (by assumption) (by first | (simp; done) | (simp; omega) | omega))))
  have be5 : Below w.heap.size w w5 := BE4.out.trans (bb5.mono BE4.out.size)
  have c5_t_0 : w5.cell? ⟨w.heap.size, 0, none⟩ = some (.int .i64 t.kd) := cell_keep bb5 c4_t_0
  have c5_t_1 : w5.cell? ⟨w.heap.size, 1, none⟩ = some (.int .i64 t.n) := cell_keep bb5 c4_t_1
  have c5_t_2 : w5.cell? ⟨w.heap.size, 2, none⟩ = some (.int .i64 t.ev) := cell_keep bb5 c4_t_2
  have c5_t_3 : w5.cell? ⟨w.heap.size, 3, none⟩ = some (.bool t.bz) := cell_keep bb5 c4_t_3
  have c5_t_4 : w5.cell? ⟨w.heap.size, 4, none⟩ = some (.slice t.p t.kids.length t.cap) := cell_keep bb5 c4_t_4
  have l5_t : w.heap.size < w5.heap.size := by omega
  have m5_t : w.heap.size < w5.heap.size + 1 := by omega
  have c5_c_0 : w5.cell? ⟨w.heap.size + 1, 0, none⟩ = some (.bool c.b0) := cell_keep bb5 c4_c_0
  have c5_c_1 : w5.cell? ⟨w.heap.size + 1, 1, none⟩ = some (.bool c.b1) := cell_keep bb5 c4_c_1
  have c5_c_2 : w5.cell? ⟨w.heap.size + 1, 2, none⟩ = some (.bool c.b2) := cell_keep bb5 c4_c_2
  have c5_c_3 : w5.cell? ⟨w.heap.size + 1, 3, none⟩ = some (.bool c.b3) := cell_keep bb5 c4_c_3
  have c5_c_4 : w5.cell? ⟨w.heap.size + 1, 4, none⟩ = some (.bool c.b4) := cell_keep bb5 c4_c_4
  have c5_c_5 : w5.cell? ⟨w.heap.size + 1, 5, none⟩ = some (.bool c.b5) := cell_keep bb5 c4_c_5
  have c5_c_6 : w5.cell? ⟨w.heap.size + 1, 6, none⟩ = some (.bool c.b6) := cell_keep bb5 c4_c_6
  have c5_c_7 : w5.cell? ⟨w.heap.size + 1, 7, none⟩ = some (.slice c.p c.hs.length c.cap) := cell_keep bb5 c4_c_7
  have l5_c : w.heap.size + 1 < w5.heap.size := by omega
  have m5_c : w.heap.size + 1 < w5.heap.size + 1 := by omega
  have HT5 := Lib.hid (HT4.out.below bb5)
  have HC5 := Lib.hid (HC4.out.below bb5)
  have HL5 := Lib.hid (HL4.out.below bb5)
  have HH5 := Lib.hid (HH4.out.below bb5)
  have HE5 := Lib.hid (HE4.out.below bb5)
  have BE5 := Lib.hid be5
  clear be5 bb5 hb5 BE4 c4_t_0 c4_t_1 c4_t_2 c4_t_3 c4_t_4 l4_t m4_t c4_c_0 c4_c_1 c4_c_2 c4_c_3 c4_c_4 c4_c_5 c4_c_6 c4_c_7 l4_c m4_c HT4 HC4 HL4 HH4 HE4
  go_wp2_with fail
  go_ret
  exact ⟨rfl, (by have q := BE5.out; repeat (first | exact q | refine Below.setCell ?_ (by first | (simp; done) | omega | (simp; omega)) _ | refine Below.alloc ?_ (by first | (simp; done) | omega | (simp; omega)) _ | refine below_drewN ?_ _ | refine Below.drew ?_))⟩
set_option maxRecDepth 100000 in
set_option maxHeartbeats 1600000 in
theorem mo_e1 (t : Dl.T) (c : Cal) (q1 q2 : Option Addr) (cap1 cap2 : Nat) (lo hi : List Wh) (b : Int) (is : Bool) (w : World) (ht : TAt w t) (hn : LenOK t) (hc : CalIn w c) (hl : EvAt w q1 lo) (hh : EvAt w q2 hi) (he : Env w) (hs : smallB t lo = true) (hln : lo.length ≤ 40) (hlh : hi.length ≤ 40) (ho : ordL lo hi = true) (ha : evalS t c lo = (0, false, 1)) (hb : evalS t c hi = (b, is, 0)) :
    Calls Tryd.prog 3 #[.agg #[.int .i64 t.kd, .int .i64 t.n, .int .i64 t.ev, .bool t.bz, .slice t.p t.kids.length t.cap], .agg #[.bool c.b0, .bool c.b1, .bool c.b2, .bool c.b3, .bool c.b4, .bool c.b5, .bool c.b6, .slice c.p c.hs.length c.cap], .slice q1 lo.length cap1, .slice q2 hi.length cap2] w fun e w' => e = .returned (.bool true) ∧ Below w.heap.size w w' := by
  have HT0 := Lib.hid ht
  clear ht
  have HC0 := Lib.hid hc
  clear hc
  have HL0 := Lib.hid hl
  clear hl
  have HH0 := Lib.hid hh
  clear hh
  have HE0 := Lib.hid he
  clear he
  have HN := Lib.hid hn
  clear hn
  have HS := Lib.hid hs
  clear hs
  have HO := Lib.hid ho
  clear ho
  have HA := Lib.hid ha
  clear ha
  have HB := Lib.hid hb
  clear hb
  go_enter Tryd.func3, Tryd.ntmps3
  go_wp2_with fail
  refine (head_any _ (HE0.out.below (by repeat (first | exact Below.refl _ _ | assumption | refine below_drewN ?_ _ | refine Below.setCell ?_ (by first | (simp; done) | (simp; omega)) _ | refine Below.alloc ?_ (by first | (simp; done) | (simp; omega) | omega) _ | refine Below.drew ?_ | refine Below.trans ?_ (Below.mono (by assumption) (by first | (simp; done) | (simp; omega) | omega)))))).mono ?_
  rintro e w1 ⟨rfl, hb1⟩
  have hz1 := hb1.size
  (try simp at hz1)
  have bb1 : Below w.heap.size w w1 := (by repeat (first | exact Below.refl _ _ | assumption | refine below_drewN ?_ _ | refine Below.setCell ?_ (by first | (simp; done) | (simp; omega)) _ | refine Below.alloc ?_ (by first | (simp; done) | (simp; omega) | omega) _ | refine Below.drew ?_ | refine Below.trans ?_ (Below.mono (by assumption) (by first | (simp; done) | (simp; omega) | omega))))
  have be1 : Below w.heap.size w w1 := bb1
  have c1_t_0 : w1.cell? ⟨w.heap.size, 0, none⟩ = some (.int .i64 t.kd) := cell_keep hb1 (by go_simp)
  have c1_t_1 : w1.cell? ⟨w.heap.size, 1, none⟩ = some (.int .i64 t.n) := cell_keep hb1 (by go_simp)
  have c1_t_2 : w1.cell? ⟨w.heap.size, 2, none⟩ = some (.int .i64 t.ev) := cell_keep hb1 (by go_simp)
  have c1_t_3 : w1.cell? ⟨w.heap.size, 3, none⟩ = some (.bool t.bz) := cell_keep hb1 (by go_simp)
  have c1_t_4 : w1.cell? ⟨w.heap.size, 4, none⟩ = some (.slice t.p t.kids.length t.cap) := cell_keep hb1 (by go_simp)
  have l1_t : w.heap.size < w1.heap.size := by omega
  have m1_t : w.heap.size < w1.heap.size + 1 := by omega
  have c1_c_0 : w1.cell? ⟨w.heap.size + 1, 0, none⟩ = some (.bool c.b0) := cell_keep hb1 (by go_simp)
  have c1_c_1 : w1.cell? ⟨w.heap.size + 1, 1, none⟩ = some (.bool c.b1) := cell_keep hb1 (by go_simp)
  have c1_c_2 : w1.cell? ⟨w.heap.size + 1, 2, none⟩ = some (.bool c.b2) := cell_keep hb1 (by go_simp)
  have c1_c_3 : w1.cell? ⟨w.heap.size + 1, 3, none⟩ = some (.bool c.b3) := cell_keep hb1 (by go_simp)
  have c1_c_4 : w1.cell? ⟨w.heap.size + 1, 4, none⟩ = some (.bool c.b4) := cell_keep hb1 (by go_simp)
  have c1_c_5 : w1.cell? ⟨w.heap.size + 1, 5, none⟩ = some (.bool c.b5) := cell_keep hb1 (by go_simp)
  have c1_c_6 : w1.cell? ⟨w.heap.size + 1, 6, none⟩ = some (.bool c.b6) := cell_keep hb1 (by go_simp)
  have c1_c_7 : w1.cell? ⟨w.heap.size + 1, 7, none⟩ = some (.slice c.p c.hs.length c.cap) := cell_keep hb1 (by go_simp)
  have l1_c : w.heap.size + 1 < w1.heap.size := by omega
  have m1_c : w.heap.size + 1 < w1.heap.size + 1 := by omega
  have HT1 := Lib.hid (HT0.out.below bb1)
  have HC1 := Lib.hid (HC0.out.below bb1)
  have HL1 := Lib.hid (HL0.out.below bb1)
  have HH1 := Lib.hid (HH0.out.below bb1)
  have HE1 := Lib.hid (HE0.out.below bb1)
  have BE1 := Lib.hid be1
  clear be1 bb1 hb1 HT0 HC0 HL0 HH0 HE0
  go_wp2_with fail
  refine (small_any t q1 lo cap1 _ HN.out (HT1.out.below (by repeat (first | exact Below.refl _ _ | assumption | refine below_drewN ?_ _ | refine Below.setCell ?_ (by first | (simp; done) | (simp; omega)) _ | refine Below.alloc ?_ (by first | (simp; done) | (simp; omega) | omega) _ | refine Below.drew ?_ | refine Below.trans ?_ (Below.mono (by assumption) (by first | (simp; done) | (simp; omega) | omega)))))).mono ?_
  rintro e w2 ⟨rfl, hb2⟩
  rw [HS.out]
  have hz2 := hb2.size
  (try simp at hz2)
  have bb2 : Below w1.heap.size w1 w2 := (by repeat (first | exact Below.refl _ _ | assumption | refine below_drewN ?_ _ | refine Below.setCell ?_ (by first | (simp; done) | (simp; omega)) _ | refine Below.alloc ?_ (by first | (simp; done) | (simp; omega) | omega) _ | refine Below.drew ?_ | refine Below.trans ?_ (Below.mono (by assumption) (by first | (simp; done) | (simp; omega) | omega))))
  have be2 : Below w.heap.size w w2 := BE1.out.trans (bb2.mono BE1.out.size)
  have c2_t_0 : w2.cell? ⟨w.heap.size, 0, none⟩ = some (.int .i64 t.kd) := cell_keep bb2 c1_t_0
  have c2_t_1 : w2.cell? ⟨w.heap.size, 1, none⟩ = some (.int .i64 t.n) := cell_keep bb2 c1_t_1
  have c2_t_2 : w2.cell? ⟨w.heap.size, 2, none⟩ = some (.int .i64 t.ev) := cell_keep bb2 c1_t_2
  have c2_t_3 : w2.cell? ⟨w.heap.size, 3, none⟩ = some (.bool t.bz) := cell_keep bb2 c1_t_3
  have c2_t_4 : w2.cell? ⟨w.heap.size, 4, none⟩ = some (.slice t.p t.kids.length t.cap) := cell_keep bb2 c1_t_4
  have l2_t : w.heap.size < w2.heap.size := by omega
  have m2_t : w.heap.size < w2.heap.size + 1 := by omega
  have c2_c_0 : w2.cell? ⟨w.heap.size + 1, 0, none⟩ = some (.bool c.b0) := cell_keep bb2 c1_c_0
  have c2_c_1 : w2.cell? ⟨w.heap.size + 1, 1, none⟩ = some (.bool c.b1) := cell_keep bb2 c1_c_1
  have c2_c_2 : w2.cell? ⟨w.heap.size + 1, 2, none⟩ = some (.bool c.b2) := cell_keep bb2 c1_c_2
  have c2_c_3 : w2.cell? ⟨w.heap.size + 1, 3, none⟩ = some (.bool c.b3) := cell_keep bb2 c1_c_3
  have c2_c_4 : w2.cell? ⟨w.heap.size + 1, 4, none⟩ = some (.bool c.b4) := cell_keep bb2 c1_c_4
  have c2_c_5 : w2.cell? ⟨w.heap.size + 1, 5, none⟩ = some (.bool c.b5) := cell_keep bb2 c1_c_5
  have c2_c_6 : w2.cell? ⟨w.heap.size + 1, 6, none⟩ = some (.bool c.b6) := cell_keep bb2 c1_c_6
  have c2_c_7 : w2.cell? ⟨w.heap.size + 1, 7, none⟩ = some (.slice c.p c.hs.length c.cap) := cell_keep bb2 c1_c_7
  have l2_c : w.heap.size + 1 < w2.heap.size := by omega
  have m2_c : w.heap.size + 1 < w2.heap.size + 1 := by omega
  have HT2 := Lib.hid (HT1.out.below bb2)
  have HC2 := Lib.hid (HC1.out.below bb2)
  have HL2 := Lib.hid (HL1.out.below bb2)
  have HH2 := Lib.hid (HH1.out.below bb2)
  have HE2 := Lib.hid (HE1.out.below bb2)
  have BE2 := Lib.hid be2
  clear be2 bb2 hb2 BE1 c1_t_0 c1_t_1 c1_t_2 c1_t_3 c1_t_4 l1_t m1_t c1_c_0 c1_c_1 c1_c_2 c1_c_3 c1_c_4 c1_c_5 c1_c_6 c1_c_7 l1_c m1_c HT1 HC1 HL1 HH1 HE1
  go_wp2_with fail
  refine (ordered_calls q1 q2 cap1 cap2 lo hi _ (by omega) (HL2.out.below (by repeat (first | exact Below.refl _ _ | assumption | refine below_drewN ?_ _ | refine Below.setCell ?_ (by first | (simp; done) | (simp; omega)) _ | refine Below.alloc ?_ (by first | (simp; done) | (simp; omega) | omega) _ | refine Below.drew ?_ | refine Below.trans ?_ (Below.mono (by assumption) (by first | (simp; done) | (simp; omega) | omega))))) (HH2.out.below (by repeat (first | exact Below.refl _ _ | assumption | refine below_drewN ?_ _ | refine Below.setCell ?_ (by first | (simp; done) | (simp; omega)) _ | refine Below.alloc ?_ (by first | (simp; done) | (simp; omega) | omega) _ | refine Below.drew ?_ | refine Below.trans ?_ (Below.mono (by assumption) (by first | (simp; done) | (simp; omega) | omega)))))).mono ?_
  rintro e w3 ⟨rfl, hb3⟩
  rw [HO.out]
  have hz3 := hb3.size
  (try simp at hz3)
  have bb3 : Below w2.heap.size w2 w3 := (by repeat (first | exact Below.refl _ _ | assumption | refine below_drewN ?_ _ | refine Below.setCell ?_ (by first | (simp; done) | (simp; omega)) _ | refine Below.alloc ?_ (by first | (simp; done) | (simp; omega) | omega) _ | refine Below.drew ?_ | refine Below.trans ?_ (Below.mono (by assumption) (by first | (simp; done) | (simp; omega) | omega))))
  have be3 : Below w.heap.size w w3 := BE2.out.trans (bb3.mono BE2.out.size)
  have c3_t_0 : w3.cell? ⟨w.heap.size, 0, none⟩ = some (.int .i64 t.kd) := cell_keep bb3 c2_t_0
  have c3_t_1 : w3.cell? ⟨w.heap.size, 1, none⟩ = some (.int .i64 t.n) := cell_keep bb3 c2_t_1
  have c3_t_2 : w3.cell? ⟨w.heap.size, 2, none⟩ = some (.int .i64 t.ev) := cell_keep bb3 c2_t_2
  have c3_t_3 : w3.cell? ⟨w.heap.size, 3, none⟩ = some (.bool t.bz) := cell_keep bb3 c2_t_3
  have c3_t_4 : w3.cell? ⟨w.heap.size, 4, none⟩ = some (.slice t.p t.kids.length t.cap) := cell_keep bb3 c2_t_4
  have l3_t : w.heap.size < w3.heap.size := by omega
  have m3_t : w.heap.size < w3.heap.size + 1 := by omega
  have c3_c_0 : w3.cell? ⟨w.heap.size + 1, 0, none⟩ = some (.bool c.b0) := cell_keep bb3 c2_c_0
  have c3_c_1 : w3.cell? ⟨w.heap.size + 1, 1, none⟩ = some (.bool c.b1) := cell_keep bb3 c2_c_1
  have c3_c_2 : w3.cell? ⟨w.heap.size + 1, 2, none⟩ = some (.bool c.b2) := cell_keep bb3 c2_c_2
  have c3_c_3 : w3.cell? ⟨w.heap.size + 1, 3, none⟩ = some (.bool c.b3) := cell_keep bb3 c2_c_3
  have c3_c_4 : w3.cell? ⟨w.heap.size + 1, 4, none⟩ = some (.bool c.b4) := cell_keep bb3 c2_c_4
  have c3_c_5 : w3.cell? ⟨w.heap.size + 1, 5, none⟩ = some (.bool c.b5) := cell_keep bb3 c2_c_5
  have c3_c_6 : w3.cell? ⟨w.heap.size + 1, 6, none⟩ = some (.bool c.b6) := cell_keep bb3 c2_c_6
  have c3_c_7 : w3.cell? ⟨w.heap.size + 1, 7, none⟩ = some (.slice c.p c.hs.length c.cap) := cell_keep bb3 c2_c_7
  have l3_c : w.heap.size + 1 < w3.heap.size := by omega
  have m3_c : w.heap.size + 1 < w3.heap.size + 1 := by omega
  have HT3 := Lib.hid (HT2.out.below bb3)
  have HC3 := Lib.hid (HC2.out.below bb3)
  have HL3 := Lib.hid (HL2.out.below bb3)
  have HH3 := Lib.hid (HH2.out.below bb3)
  have HE3 := Lib.hid (HE2.out.below bb3)
  have BE3 := Lib.hid be3
  clear be3 bb3 hb3 BE2 c2_t_0 c2_t_1 c2_t_2 c2_t_3 c2_t_4 l2_t m2_t c2_c_0 c2_c_1 c2_c_2 c2_c_3 c2_c_4 c2_c_5 c2_c_6 c2_c_7 l2_c m2_c HT2 HC2 HL2 HH2 HE2
  go_wp2_with fail
  refine (eval_at t c q1 cap1 lo _ (HT3.out.below (by repeat (first | exact Below.refl _ _ | assumption | refine below_drewN ?_ _ | refine Below.setCell ?_ (by first | (simp; done) | (simp; omega)) _ | refine Below.alloc ?_ (by first | (simp; done) | (simp; omega) | omega) _ | refine Below.drew ?_ | refine Below.trans ?_ (Below.mono (by assumption) (by first | (simp; done) | (simp; omega) | omega))))) (HC3.out.below (by repeat (first | exact Below.refl _ _ | assumption | refine below_drewN ?_ _ | refine Below.setCell ?_ (by first | (simp; done) | (simp; omega)) _ | refine Below.alloc ?_ (by first | (simp; done) | (simp; omega) | omega) _ | refine Below.drew ?_ | refine Below.trans ?_ (Below.mono (by assumption) (by first | (simp; done) | (simp; omega) | omega))))) (HL3.out.below (by repeat (first | exact Below.refl _ _ | assumption | refine below_drewN ?_ _ | refine Below.setCell ?_ (by first | (simp; done) | (simp; omega)) _ | refine Below.alloc ?_ (by first | (simp; done) | (simp; omega) | omega) _ | refine Below.drew ?_ | refine Below.trans ?_ (Below.mono (by assumption) (by first | (simp; done) | (simp; omega) | omega))))) (by omega) (HE3.out.below (by repeat (first | exact Below.refl _ _ | assumption | refine below_drewN ?_ _ | refine Below.setCell ?_ (by first | (simp; done) | (simp; omega)) _ | refine Below.alloc ?_ (by first | (simp; done) | (simp; omega) | omega) _ | refine Below.drew ?_ | refine Below.trans ?_ (Below.mono (by assumption) (by first | (simp; done) | (simp; omega) | omega)))))).mono ?_
  rintro e w4 ⟨rfl, hb4⟩
  rw [HA.out]
  simp only [R3]
  have hz4 := hb4.size
  (try simp at hz4)
  have bb4 : Below w3.heap.size w3 w4 := (by repeat (first | exact Below.refl _ _ | assumption | refine below_drewN ?_ _ | refine Below.setCell ?_ (by first | (simp; done) | (simp; omega)) _ | refine Below.alloc ?_ (by first | (simp; done) | (simp; omega) | omega) _ | refine Below.drew ?_ | refine Below.trans ?_ (Below.mono (by assumption) (by first | (simp; done) | (simp; omega) | omega))))
  have be4 : Below w.heap.size w w4 := BE3.out.trans (bb4.mono BE3.out.size)
  have c4_t_0 : w4.cell? ⟨w.heap.size, 0, none⟩ = some (.int .i64 t.kd) := cell_keep bb4 c3_t_0
  have c4_t_1 : w4.cell? ⟨w.heap.size, 1, none⟩ = some (.int .i64 t.n) := cell_keep bb4 c3_t_1
  have c4_t_2 : w4.cell? ⟨w.heap.size, 2, none⟩ = some (.int .i64 t.ev) := cell_keep bb4 c3_t_2
  have c4_t_3 : w4.cell? ⟨w.heap.size, 3, none⟩ = some (.bool t.bz) := cell_keep bb4 c3_t_3
  have c4_t_4 : w4.cell? ⟨w.heap.size, 4, none⟩ = some (.slice t.p t.kids.length t.cap) := cell_keep bb4 c3_t_4
  have l4_t : w.heap.size < w4.heap.size := by omega
  have m4_t : w.heap.size < w4.heap.size + 1 := by omega
  have c4_c_0 : w4.cell? ⟨w.heap.size + 1, 0, none⟩ = some (.bool c.b0) := cell_keep bb4 c3_c_0
  have c4_c_1 : w4.cell? ⟨w.heap.size + 1, 1, none⟩ = some (.bool c.b1) := cell_keep bb4 c3_c_1
  have c4_c_2 : w4.cell? ⟨w.heap.size + 1, 2, none⟩ = some (.bool c.b2) := cell_keep bb4 c3_c_2
  have c4_c_3 : w4.cell? ⟨w.heap.size + 1, 3, none⟩ = some (.bool c.b3) := cell_keep bb4 c3_c_3
  have c4_c_4 : w4.cell? ⟨w.heap.size + 1, 4, none⟩ = some (.bool c.b4) := cell_keep bb4 c3_c_4
  have c4_c_5 : w4.cell? ⟨w.heap.size + 1, 5, none⟩ = some (.bool c.b5) := cell_keep bb4 c3_c_5
  have c4_c_6 : w4.cell? ⟨w.heap.size + 1, 6, none⟩ = some (.bool c.b6) := cell_keep bb4 c3_c_6
  have c4_c_7 : w4.cell? ⟨w.heap.size + 1, 7, none⟩ = some (.slice c.p c.hs.length c.cap) := cell_keep bb4 c3_c_7
  have l4_c : w.heap.size + 1 < w4.heap.size := by omega
  have m4_c : w.heap.size + 1 < w4.heap.size + 1 := by omega
  have HT4 := Lib.hid (HT3.out.below bb4)
  have HC4 := Lib.hid (HC3.out.below bb4)
  have HL4 := Lib.hid (HL3.out.below bb4)
  have HH4 := Lib.hid (HH3.out.below bb4)
  have HE4 := Lib.hid (HE3.out.below bb4)
  have BE4 := Lib.hid be4
  clear be4 bb4 hb4 BE3 c3_t_0 c3_t_1 c3_t_2 c3_t_3 c3_t_4 l3_t m3_t c3_c_0 c3_c_1 c3_c_2 c3_c_3 c3_c_4 c3_c_5 c3_c_6 c3_c_7 l3_c m3_c HT3 HC3 HL3 HH3 HE3
  go_wp2_with fail
  refine (eval_at t c q2 cap2 hi _ (HT4.out.below (by repeat (first | exact Below.refl _ _ | assumption | refine below_drewN ?_ _ | refine Below.setCell ?_ (by first | (simp; done) | (simp; omega)) _ | refine Below.alloc ?_ (by first | (simp; done) | (simp; omega) | omega) _ | refine Below.drew ?_ | refine Below.trans ?_ (Below.mono (by assumption) (by first | (simp; done) | (simp; omega) | omega))))) (HC4.out.below (by repeat (first | exact Below.refl _ _ | assumption | refine below_drewN ?_ _ | refine Below.setCell ?_ (by first | (simp; done) | (simp; omega)) _ | refine Below.alloc ?_ (by first | (simp; done) | (simp; omega) | omega) _ | refine Below.drew ?_ | refine Below.trans ?_ (Below.mono (by assumption) (by first | (simp; done) | (simp; omega) | omega))))) (HH4.out.below (by repeat (first | exact Below.refl _ _ | assumption | refine below_drewN ?_ _ | refine Below.setCell ?_ (by first | (simp; done) | (simp; omega)) _ | refine Below.alloc ?_ (by first | (simp; done) | (simp; omega) | omega) _ | refine Below.drew ?_ | refine Below.trans ?_ (Below.mono (by assumption) (by first | (simp; done) | (simp; omega) | omega))))) (by omega) (HE4.out.below (by repeat (first | exact Below.refl _ _ | assumption | refine below_drewN ?_ _ | refine Below.setCell ?_ (by first | (simp; done) | (simp; omega)) _ | refine Below.alloc ?_ (by first | (simp; done) | (simp; omega) | omega) _ | refine Below.drew ?_ | refine Below.trans ?_ (Below.mono (by assumption) (by first | (simp; done) | (simp; omega) | omega)))))).mono ?_
  rintro e w5 ⟨rfl, hb5⟩
  rw [HB.out]
  simp only [R3]
  have hz5 := hb5.size
  (try simp at hz5)
  have bb5 : Below w4.heap.size w4 w5 := (by repeat (first | exact Below.refl _ _ | assumption | refine below_drewN ?_ _ | refine Below.setCell ?_ (by first | (simp; done) | (simp; omega)) _ | refine Below.alloc ?_ (by first | (simp; done) | (simp; omega) | omega) _ | refine Below.drew ?_ | refine Below.trans ?_ (Below.mono (by assumption) (by first | (simp; done) | (simp; omega) | omega))))
  have be5 : Below w.heap.size w w5 := BE4.out.trans (bb5.mono BE4.out.size)
  have c5_t_0 : w5.cell? ⟨w.heap.size, 0, none⟩ = some (.int .i64 t.kd) := cell_keep bb5 c4_t_0
  have c5_t_1 : w5.cell? ⟨w.heap.size, 1, none⟩ = some (.int .i64 t.n) := cell_keep bb5 c4_t_1
  have c5_t_2 : w5.cell? ⟨w.heap.size, 2, none⟩ = some (.int .i64 t.ev) := cell_keep bb5 c4_t_2
  have c5_t_3 : w5.cell? ⟨w.heap.size, 3, none⟩ = some (.bool t.bz) := cell_keep bb5 c4_t_3
  have c5_t_4 : w5.cell? ⟨w.heap.size, 4, none⟩ = some (.slice t.p t.kids.length t.cap) := cell_keep bb5 c4_t_4
  have l5_t : w.heap.size < w5.heap.size := by omega
  have m5_t : w.heap.size < w5.heap.size + 1 := by omega
  have c5_c_0 : w5.cell? ⟨w.heap.size + 1, 0, none⟩ = some (.bool c.b0) := cell_keep bb5 c4_c_0
  have c5_c_1 : w5.cell? ⟨w.heap.size + 1, 1, none⟩ = some (.bool c.b1) := cell_keep bb5 c4_c_1
  have c5_c_2 : w5.cell? ⟨w.heap.size + 1, 2, none⟩ = some (.bool c.b2) := cell_keep bb5 c4_c_2
  have c5_c_3 : w5.cell? ⟨w.heap.size + 1, 3, none⟩ = some (.bool c.b3) := cell_keep bb5 c4_c_3
  have c5_c_4 : w5.cell? ⟨w.heap.size + 1, 4, none⟩ = some (.bool c.b4) := cell_keep bb5 c4_c_4
  have c5_c_5 : w5.cell? ⟨w.heap.size + 1, 5, none⟩ = some (.bool c.b5) := cell_keep bb5 c4_c_5
  have c5_c_6 : w5.cell? ⟨w.heap.size + 1, 6, none⟩ = some (.bool c.b6) := cell_keep bb5 c4_c_6
  have c5_c_7 : w5.cell? ⟨w.heap.size + 1, 7, none⟩ = some (.slice c.p c.hs.length c.cap) := cell_keep bb5 c4_c_7
  have l5_c : w.heap.size + 1 < w5.heap.size := by omega
  have m5_c : w.heap.size + 1 < w5.heap.size + 1 := by omega
  have HT5 := Lib.hid (HT4.out.below bb5)
  have HC5 := Lib.hid (HC4.out.below bb5)
  have HL5 := Lib.hid (HL4.out.below bb5)
  have HH5 := Lib.hid (HH4.out.below bb5)
  have HE5 := Lib.hid (HE4.out.below bb5)
  have BE5 := Lib.hid be5
  clear be5 bb5 hb5 BE4 c4_t_0 c4_t_1 c4_t_2 c4_t_3 c4_t_4 l4_t m4_t c4_c_0 c4_c_1 c4_c_2 c4_c_3 c4_c_4 c4_c_5 c4_c_6 c4_c_7 l4_c m4_c HT4 HC4 HL4 HH4 HE4
  go_wp2_with fail
  go_ret
  exact ⟨rfl, (by have q := BE5.out; repeat (first | exact q | refine Below.setCell ?_ (by first | (simp; done) | omega | (simp; omega)) _ | refine Below.alloc ?_ (by first | (simp; done) | omega | (simp; omega)) _ | refine below_drewN ?_ _ | refine Below.drew ?_))⟩
set_option maxRecDepth 100000 in
set_option maxHeartbeats 1600000 in
theorem mo_un (t : Dl.T) (c : Cal) (q1 q2 : Option Addr) (cap1 cap2 : Nat) (lo hi : List Wh) (w : World) (ht : TAt w t) (hn : LenOK t) (hc : CalIn w c) (hl : EvAt w q1 lo) (hh : EvAt w q2 hi) (he : Env w) (hs : smallB t lo = true) (hln : lo.length ≤ 40) (hlh : hi.length ≤ 40) (ho : ordL lo hi = true) (ha : evalS t c lo = (0, false, 0)) (hb : evalS t c hi = (0, false, 0)) :
    Calls Tryd.prog 3 #[.agg #[.int .i64 t.kd, .int .i64 t.n, .int .i64 t.ev, .bool t.bz, .slice t.p t.kids.length t.cap], .agg #[.bool c.b0, .bool c.b1, .bool c.b2, .bool c.b3, .bool c.b4, .bool c.b5, .bool c.b6, .slice c.p c.hs.length c.cap], .slice q1 lo.length cap1, .slice q2 hi.length cap2] w fun e w' => e = .returned (.bool true) ∧ Below w.heap.size w w' := by
  have HT0 := Lib.hid ht
  clear ht
  have HC0 := Lib.hid hc
  clear hc
  have HL0 := Lib.hid hl
  clear hl
  have HH0 := Lib.hid hh
  clear hh
  have HE0 := Lib.hid he
  clear he
  have HN := Lib.hid hn
  clear hn
  have HS := Lib.hid hs
  clear hs
  have HO := Lib.hid ho
  clear ho
  have HA := Lib.hid ha
  clear ha
  have HB := Lib.hid hb
  clear hb
  go_enter Tryd.func3, Tryd.ntmps3
  go_wp2_with fail
  refine (head_any _ (HE0.out.below (by repeat (first | exact Below.refl _ _ | assumption | refine below_drewN ?_ _ | refine Below.setCell ?_ (by first | (simp; done) | (simp; omega)) _ | refine Below.alloc ?_ (by first | (simp; done) | (simp; omega) | omega) _ | refine Below.drew ?_ | refine Below.trans ?_ (Below.mono (by assumption) (by first | (simp; done) | (simp; omega) | omega)))))).mono ?_
  rintro e w1 ⟨rfl, hb1⟩
  have hz1 := hb1.size
  (try simp at hz1)
  have bb1 : Below w.heap.size w w1 := (by repeat (first | exact Below.refl _ _ | assumption | refine below_drewN ?_ _ | refine Below.setCell ?_ (by first | (simp; done) | (simp; omega)) _ | refine Below.alloc ?_ (by first | (simp; done) | (simp; omega) | omega) _ | refine Below.drew ?_ | refine Below.trans ?_ (Below.mono (by assumption) (by first | (simp; done) | (simp; omega) | omega))))
  have be1 : Below w.heap.size w w1 := bb1
  have c1_t_0 : w1.cell? ⟨w.heap.size, 0, none⟩ = some (.int .i64 t.kd) := cell_keep hb1 (by go_simp)
  have c1_t_1 : w1.cell? ⟨w.heap.size, 1, none⟩ = some (.int .i64 t.n) := cell_keep hb1 (by go_simp)
  have c1_t_2 : w1.cell? ⟨w.heap.size, 2, none⟩ = some (.int .i64 t.ev) := cell_keep hb1 (by go_simp)
  have c1_t_3 : w1.cell? ⟨w.heap.size, 3, none⟩ = some (.bool t.bz) := cell_keep hb1 (by go_simp)
  have c1_t_4 : w1.cell? ⟨w.heap.size, 4, none⟩ = some (.slice t.p t.kids.length t.cap) := cell_keep hb1 (by go_simp)
  have l1_t : w.heap.size < w1.heap.size := by omega
  have m1_t : w.heap.size < w1.heap.size + 1 := by omega
  have c1_c_0 : w1.cell? ⟨w.heap.size + 1, 0, none⟩ = some (.bool c.b0) := cell_keep hb1 (by go_simp)
  have c1_c_1 : w1.cell? ⟨w.heap.size + 1, 1, none⟩ = some (.bool c.b1) := cell_keep hb1 (by go_simp)
  have c1_c_2 : w1.cell? ⟨w.heap.size + 1, 2, none⟩ = some (.bool c.b2) := cell_keep hb1 (by go_simp)
  have c1_c_3 : w1.cell? ⟨w.heap.size + 1, 3, none⟩ = some (.bool c.b3) := cell_keep hb1 (by go_simp)
  have c1_c_4 : w1.cell? ⟨w.heap.size + 1, 4, none⟩ = some (.bool c.b4) := cell_keep hb1 (by go_simp)
  have c1_c_5 : w1.cell? ⟨w.heap.size + 1, 5, none⟩ = some (.bool c.b5) := cell_keep hb1 (by go_simp)
  have c1_c_6 : w1.cell? ⟨w.heap.size + 1, 6, none⟩ = some (.bool c.b6) := cell_keep hb1 (by go_simp)
  have c1_c_7 : w1.cell? ⟨w.heap.size + 1, 7, none⟩ = some (.slice c.p c.hs.length c.cap) := cell_keep hb1 (by go_simp)
  have l1_c : w.heap.size + 1 < w1.heap.size := by omega
  have m1_c : w.heap.size + 1 < w1.heap.size + 1 := by omega
  have HT1 := Lib.hid (HT0.out.below bb1)
  have HC1 := Lib.hid (HC0.out.below bb1)
  have HL1 := Lib.hid (HL0.out.below bb1)
  have HH1 := Lib.hid (HH0.out.below bb1)
  have HE1 := Lib.hid (HE0.out.below bb1)
  have BE1 := Lib.hid be1
  clear be1 bb1 hb1 HT0 HC0 HL0 HH0 HE0
  go_wp2_with fail
  refine (small_any t q1 lo cap1 _ HN.out (HT1.out.below (by repeat (first | exact Below.refl _ _ | assumption | refine below_drewN ?_ _ | refine Below.setCell ?_ (by first | (simp; done) | (simp; omega)) _ | refine Below.alloc ?_ (by first | (simp; done) | (simp; omega) | omega) _ | refine Below.drew ?_ | refine Below.trans ?_ (Below.mono (by assumption) (by first | (simp; done) | (simp; omega) | omega)))))).mono ?_
  rintro e w2 ⟨rfl, hb2⟩
  rw [HS.out]
  have hz2 := hb2.size
  (try simp at hz2)
  have bb2 : Below w1.heap.size w1 w2 := (by repeat (first | exact Below.refl _ _ | assumption | refine below_drewN ?_ _ | refine Below.setCell ?_ (by first | (simp; done) | (simp; omega)) _ | refine Below.alloc ?_ (by first | (simp; done) | (simp; omega) | omega) _ | refine Below.drew ?_ | refine Below.trans ?_ (Below.mono (by assumption) (by first | (simp; done) | (simp; omega) | omega))))
  have be2 : Below w.heap.size w w2 := BE1.out.trans (bb2.mono BE1.out.size)
  have c2_t_0 : w2.cell? ⟨w.heap.size, 0, none⟩ = some (.int .i64 t.kd) := cell_keep bb2 c1_t_0
  have c2_t_1 : w2.cell? ⟨w.heap.size, 1, none⟩ = some (.int .i64 t.n) := cell_keep bb2 c1_t_1
  have c2_t_2 : w2.cell? ⟨w.heap.size, 2, none⟩ = some (.int .i64 t.ev) := cell_keep bb2 c1_t_2
  have c2_t_3 : w2.cell? ⟨w.heap.size, 3, none⟩ = some (.bool t.bz) := cell_keep bb2 c1_t_3
  have c2_t_4 : w2.cell? ⟨w.heap.size, 4, none⟩ = some (.slice t.p t.kids.length t.cap) := cell_keep bb2 c1_t_4
  have l2_t : w.heap.size < w2.heap.size := by omega
  have m2_t : w.heap.size < w2.heap.size + 1 := by omega
  have c2_c_0 : w2.cell? ⟨w.heap.size + 1, 0, none⟩ = some (.bool c.b0) := cell_keep bb2 c1_c_0
  have c2_c_1 : w2.cell? ⟨w.heap.size + 1, 1, none⟩ = some (.bool c.b1) := cell_keep bb2 c1_c_1
  have c2_c_2 : w2.cell? ⟨w.heap.size + 1, 2, none⟩ = some (.bool c.b2) := cell_keep bb2 c1_c_2
  have c2_c_3 : w2.cell? ⟨w.heap.size + 1, 3, none⟩ = some (.bool c.b3) := cell_keep bb2 c1_c_3
  have c2_c_4 : w2.cell? ⟨w.heap.size + 1, 4, none⟩ = some (.bool c.b4) := cell_keep bb2 c1_c_4
  have c2_c_5 : w2.cell? ⟨w.heap.size + 1, 5, none⟩ = some (.bool c.b5) := cell_keep bb2 c1_c_5
  have c2_c_6 : w2.cell? ⟨w.heap.size + 1, 6, none⟩ = some (.bool c.b6) := cell_keep bb2 c1_c_6
  have c2_c_7 : w2.cell? ⟨w.heap.size + 1, 7, none⟩ = some (.slice c.p c.hs.length c.cap) := cell_keep bb2 c1_c_7
  have l2_c : w.heap.size + 1 < w2.heap.size := by omega
  have m2_c : w.heap.size + 1 < w2.heap.size + 1 := by omega
  have HT2 := Lib.hid (HT1.out.below bb2)
  have HC2 := Lib.hid (HC1.out.below bb2)
  have HL2 := Lib.hid (HL1.out.below bb2)
  have HH2 := Lib.hid (HH1.out.below bb2)
  have HE2 := Lib.hid (HE1.out.below bb2)
  have BE2 := Lib.hid be2
  clear be2 bb2 hb2 BE1 c1_t_0 c1_t_1 c1_t_2 c1_t_3 c1_t_4 l1_t m1_t c1_c_0 c1_c_1 c1_c_2 c1_c_3 c1_c_4 c1_c_5 c1_c_6 c1_c_7 l1_c m1_c HT1 HC1 HL1 HH1 HE1
  go_wp2_with fail
  refine (ordered_calls q1 q2 cap1 cap2 lo hi _ (by omega) (HL2.out.below (by repeat (first | exact Below.refl _ _ | assumption | refine below_drewN ?_ _ | refine Below.setCell ?_ (by first | (simp; done) | (simp; omega)) _ | refine Below.alloc ?_ (by first | (simp; done) | (simp; omega) | omega) _ | refine Below.drew ?_ | refine Below.trans ?_ (Below.mono (by assumption) (by first | (simp; done) | (simp; omega) | omega))))) (HH2.out.below (by repeat (first | exact Below.refl _ _ | assumption | refine below_drewN ?_ _ | refine Below.setCell ?_ (by first | (simp; done) | (simp; omega)) _ | refine Below.alloc ?_ (by first | (simp; done) | (simp; omega) | omega) _ | refine Below.drew ?_ | refine Below.trans ?_ (Below.mono (by assumption) (by first | (simp; done) | (simp; omega) | omega)))))).mono ?_
  rintro e w3 ⟨rfl, hb3⟩
  rw [HO.out]
  have hz3 := hb3.size
  (try simp at hz3)
  have bb3 : Below w2.heap.size w2 w3 := (by repeat (first | exact Below.refl _ _ | assumption | refine below_drewN ?_ _ | refine Below.setCell ?_ (by first | (simp; done) | (simp; omega)) _ | refine Below.alloc ?_ (by first | (simp; done) | (simp; omega) | omega) _ | refine Below.drew ?_ | refine Below.trans ?_ (Below.mono (by assumption) (by first | (simp; done) | (simp; omega) | omega))))
  have be3 : Below w.heap.size w w3 := BE2.out.trans (bb3.mono BE2.out.size)
  have c3_t_0 : w3.cell? ⟨w.heap.size, 0, none⟩ = some (.int .i64 t.kd) := cell_keep bb3 c2_t_0
  have c3_t_1 : w3.cell? ⟨w.heap.size, 1, none⟩ = some (.int .i64 t.n) := cell_keep bb3 c2_t_1
  have c3_t_2 : w3.cell? ⟨w.heap.size, 2, none⟩ = some (.int .i64 t.ev) := cell_keep bb3 c2_t_2
  have c3_t_3 : w3.cell? ⟨w.heap.size, 3, none⟩ = some (.bool t.bz) := cell_keep bb3 c2_t_3
  have c3_t_4 : w3.cell? ⟨w.heap.size, 4, none⟩ = some (.slice t.p t.kids.length t.cap) := cell_keep bb3 c2_t_4
  have l3_t : w.heap.size < w3.heap.size := by omega
  have m3_t : w.heap.size < w3.heap.size + 1 := by omega
  have c3_c_0 : w3.cell? ⟨w.heap.size + 1, 0, none⟩ = some (.bool c.b0) := cell_keep bb3 c2_c_0
  have c3_c_1 : w3.cell? ⟨w.heap.size + 1, 1, none⟩ = some (.bool c.b1) := cell_keep bb3 c2_c_1
  have c3_c_2 : w3.cell? ⟨w.heap.size + 1, 2, none⟩ = some (.bool c.b2) := cell_keep bb3 c2_c_2
  have c3_c_3 : w3.cell? ⟨w.heap.size + 1, 3, none⟩ = some (.bool c.b3) := cell_keep bb3 c2_c_3
  have c3_c_4 : w3.cell? ⟨w.heap.size + 1, 4, none⟩ = some (.bool c.b4) := cell_keep bb3 c2_c_4
  have c3_c_5 : w3.cell? ⟨w.heap.size + 1, 5, none⟩ = some (.bool c.b5) := cell_keep bb3 c2_c_5
  have c3_c_6 : w3.cell? ⟨w.heap.size + 1, 6, none⟩ = some (.bool c.b6) := cell_keep bb3 c2_c_6
  have c3_c_7 : w3.cell? ⟨w.heap.size + 1, 7, none⟩ = some (.slice c.p c.hs.length c.cap) := cell_keep bb3 c2_c_7
  have l3_c : w.heap.size + 1 < w3.heap.size := by omega
  have m3_c : w.heap.size + 1 < w3.heap.size + 1 := by omega
  have HT3 := Lib.hid (HT2.out.below bb3)
  have HC3 := Lib.hid (HC2.out.below bb3)
  have HL3 := Lib.hid (HL2.out.below bb3)
  have HH3 := Lib.hid (HH2.out.below bb3)
  have HE3 := Lib.hid (HE2.out.below bb3)
  have BE3 := Lib.hid be3
  clear be3 bb3 hb3 BE2 c2_t_0 c2_t_1 c2_t_2 c2_t_3 c2_t_4 l2_t m2_t c2_c_0 c2_c_1 c2_c_2 c2_c_3 c2_c_4 c2_c_5 c2_c_6 c2_c_7 l2_c m2_c HT2 HC2 HL2 HH2 HE2
  go_wp2_with fail
  refine (eval_at t c q1 cap1 lo _ (HT3.out.below (by repeat (first | exact Below.refl _ _ | assumption | refine below_drewN ?_ _ | refine Below.setCell ?_ (by first | (simp; done) | (simp; omega)) _ | refine Below.alloc ?_ (by first | (simp; done) | (simp; omega) | omega) _ | refine Below.drew ?_ | refine Below.trans ?_ (Below.mono (by assumption) (by first | (simp; done) | (simp; omega) | omega))))) (HC3.out.below (by repeat (first | exact Below.refl _ _ | assumption | refine below_drewN ?_ _ | refine Below.setCell ?_ (by first | (simp; done) | (simp; omega)) _ | refine Below.alloc ?_ (by first | (simp; done) | (simp; omega) | omega) _ | refine Below.drew ?_ | refine Below.trans ?_ (Below.mono (by assumption) (by first | (simp; done) | (simp; omega) | omega))))) (HL3.out.below (by repeat (first | exact Below.refl _ _ | assumption | refine below_drewN ?_ _ | refine Below.setCell ?_ (by first | (simp; done) | (simp; omega)) _ | refine Below.alloc ?_ (by first | (simp; done) | (simp; omega) | omega) _ | refine Below.drew ?_ | refine Below.trans ?_ (Below.mono (by assumption) (by first | (simp; done) | (simp; omega) | omega))))) (by omega) (HE3.out.below (by repeat (first | exact Below.refl _ _ | assumption | refine below_drewN ?_ _ | refine Below.setCell ?_ (by first | (simp; done) | (simp; omega)) _ | refine Below.alloc ?_ (by first | (simp; done) | (simp; omega) | omega) _ | refine Below.drew ?_ | refine Below.trans ?_ (Below.mono (by assumption) (by first | (simp; done) | (simp; omega) | omega)))))).mono ?_
  rintro e w4 ⟨rfl, hb4⟩
  rw [HA.out]
  simp only [R3]
  have hz4 := hb4.size
  (try simp at hz4)
  have bb4 : Below w3.heap.size w3 w4 := (by repeat (first | exact Below.refl _ _ | assumption | refine below_drewN ?_ _ | refine Below.setCell ?_ (by first | (simp; done) | (simp; omega)) _ | refine Below.alloc ?_ (by first | (simp; done) | (simp; omega) | omega) _ | refine Below.drew ?_ | refine Below.trans ?_ (Below.mono (by assumption) (by first | (simp; done) | (simp; omega) | omega))))
  have be4 : Below w.heap.size w w4 := BE3.out.trans (bb4.mono BE3.out.size)
  have c4_t_0 : w4.cell? ⟨w.heap.size, 0, none⟩ = some (.int .i64 t.kd) := cell_keep bb4 c3_t_0
  have c4_t_1 : w4.cell? ⟨w.heap.size, 1, none⟩ = some (.int .i64 t.n) := cell_keep bb4 c3_t_1
  have c4_t_2 : w4.cell? ⟨w.heap.size, 2, none⟩ = some (.int .i64 t.ev) := cell_keep bb4 c3_t_2
  have c4_t_3 : w4.cell? ⟨w.heap.size, 3, none⟩ = some (.bool t.bz) := cell_keep bb4 c3_t_3
  have c4_t_4 : w4.cell? ⟨w.heap.size, 4, none⟩ = some (.slice t.p t.kids.length t.cap) := cell_keep bb4 c3_t_4
  have l4_t : w.heap.size < w4.heap.size := by omega
  have m4_t : w.heap.size < w4.heap.size + 1 := by omega
  have c4_c_0 : w4.cell? ⟨w.heap.size + 1, 0, none⟩ = some (.bool c.b0) := cell_keep bb4 c3_c_0
  have c4_c_1 : w4.cell? ⟨w.heap.size + 1, 1, none⟩ = some (.bool c.b1) := cell_keep bb4 c3_c_1
  have c4_c_2 : w4.cell? ⟨w.heap.size + 1, 2, none⟩ = some (.bool c.b2) := cell_keep bb4 c3_c_2
  have c4_c_3 : w4.cell? ⟨w.heap.size + 1, 3, none⟩ = some (.bool c.b3) := cell_keep bb4 c3_c_3
  have c4_c_4 : w4.cell? ⟨w.heap.size + 1, 4, none⟩ = some (.bool c.b4) := cell_keep bb4 c3_c_4
  have c4_c_5 : w4.cell? ⟨w.heap.size + 1, 5, none⟩ = some (.bool c.b5) := cell_keep bb4 c3_c_5
  have c4_c_6 : w4.cell? ⟨w.heap.size + 1, 6, none⟩ = some (.bool c.b6) := cell_keep bb4 c3_c_6
  have c4_c_7 : w4.cell? ⟨w.heap.size + 1, 7, none⟩ = some (.slice c.p c.hs.length c.cap) := cell_keep bb4 c3_c_7
  have l4_c : w.heap.size + 1 < w4.heap.size := by omega
  have m4_c : w.heap.size + 1 < w4.heap.size + 1 := by omega
  have HT4 := Lib.hid (HT3.out.below bb4)
  have HC4 := Lib.hid (HC3.out.below bb4)
  have HL4 := Lib.hid (HL3.out.below bb4)
  have HH4 := Lib.hid (HH3.out.below bb4)
  have HE4 := Lib.hid (HE3.out.below bb4)
  have BE4 := Lib.hid be4
  clear be4 bb4 hb4 BE3 c3_t_0 c3_t_1 c3_t_2 c3_t_3 c3_t_4 l3_t m3_t c3_c_0 c3_c_1 c3_c_2 c3_c_3 c3_c_4 c3_c_5 c3_c_6 c3_c_7 l3_c m3_c HT3 HC3 HL3 HH3 HE3
  go_wp2_with fail
  refine (eval_at t c q2 cap2 hi _ (HT4.out.below (by repeat (first | exact Below.refl _ _ | assumption | refine below_drewN ?_ _ | refine Below.setCell ?_ (by first | (simp; done) | (simp; omega)) _ | refine Below.alloc ?_ (by first | (simp; done) | (simp; omega) | omega) _ | refine Below.drew ?_ | refine Below.trans ?_ (Below.mono (by assumption) (by first | (simp; done) | (simp; omega) | omega))))) (HC4.out.below (by repeat (first | exact Below.refl _ _ | assumption | refine below_drewN ?_ _ | refine Below.setCell ?_ (by first | (simp; done) | (simp; omega)) _ | refine Below.alloc ?_ (by first | (simp; done) | (simp; omega) | omega) _ | refine Below.drew ?_ | refine Below.trans ?_ (Below.mono (by assumption) (by first | (simp; done) | (simp; omega) | omega))))) (HH4.out.below (by repeat (first | exact Below.refl _ _ | assumption | refine below_drewN ?_ _ | refine Below.setCell ?_ (by first | (simp; done) | (simp; omega)) _ | refine Below.alloc ?_ (by first | (simp; done) | (simp; omega) | omega) _ | refine Below.drew ?_ | refine Below.trans ?_ (Below.mono (by assumption) (by first | (simp; done) | (simp; omega) | omega))))) (by omega) (HE4.out.below (by repeat (first | exact Below.refl _ _ | assumption | refine below_drewN ?_ _ | refine Below.setCell ?_ (by first | (simp; done) | (simp; omega)) _ | refine Below.alloc ?_ (by first | (simp; done) | (simp; omega) | omega) _ | refine Below.drew ?_ | refine Below.trans ?_ (Below.mono (by assumption) (by first | (simp; done) | (simp; omega) | omega)))))).mono ?_
  rintro e w5 ⟨rfl, hb5⟩
  rw [HB.out]
  simp only [R3]
  have hz5 := hb5.size
  (try simp at hz5)
  have bb5 : Below w4.heap.size w4 w5 := (by repeat (first | exact Below.refl _ _ | assumption | refine below_drewN ?_ _ | refine Below.setCell ?_ (by first | (simp; done) | (simp; omega)) _ | refine Below.alloc ?_ (by first | (simp; done) | (simp; omega) | omega) _ | refine Below.drew ?_ | refine Below.trans ?_ (Below.mono (by assumption) (by first | (simp; done) | (simp; omega) | omega))))
  have be5 : Below w.heap.size w w5 := BE4.out.trans (bb5.mono BE4.out.size)
  have c5_t_0 : w5.cell? ⟨w.heap.size, 0, none⟩ = some (.int .i64 t.kd) := cell_keep bb5 c4_t_0
  have c5_t_1 : w5.cell? ⟨w.heap.size, 1, none⟩ = some (.int .i64 t.n) := cell_keep bb5 c4_t_1
  have c5_t_2 : w5.cell? ⟨w.heap.size, 2, none⟩ = some (.int .i64 t.ev) := cell_keep bb5 c4_t_2
  have c5_t_3 : w5.cell? ⟨w.heap.size, 3, none⟩ = some (.bool t.bz) := cell_keep bb5 c4_t_3
  have c5_t_4 : w5.cell? ⟨w.heap.size, 4, none⟩ = some (.slice t.p t.kids.length t.cap) := cell_keep bb5 c4_t_4
  have l5_t : w.heap.size < w5.heap.size := by omega
  have m5_t : w.heap.size < w5.heap.size + 1 := by omega
  have c5_c_0 : w5.cell? ⟨w.heap.size + 1, 0, none⟩ = some (.bool c.b0) := cell_keep bb5 c4_c_0
  have c5_c_1 : w5.cell? ⟨w.heap.size + 1, 1, none⟩ = some (.bool c.b1) := cell_keep bb5 c4_c_1
  have c5_c_2 : w5.cell? ⟨w.heap.size + 1, 2, none⟩ = some (.bool c.b2) := cell_keep bb5 c4_c_2
  have c5_c_3 : w5.cell? ⟨w.heap.size + 1, 3, none⟩ = some (.bool c.b3) := cell_keep bb5 c4_c_3
  have c5_c_4 : w5.cell? ⟨w.heap.size + 1, 4, none⟩ = some (.bool c.b4) := cell_keep bb5 c4_c_4
  have c5_c_5 : w5.cell? ⟨w.heap.size + 1, 5, none⟩ = some (.bool c.b5) := cell_keep bb5 c4_c_5
  have c5_c_6 : w5.cell? ⟨w.heap.size + 1, 6, none⟩ = some (.bool c.b6) := cell_keep bb5 c4_c_6
  have c5_c_7 : w5.cell? ⟨w.heap.size + 1, 7, none⟩ = some (.slice c.p c.hs.length c.cap) := cell_keep bb5 c4_c_7
  have l5_c : w.heap.size + 1 < w5.heap.size := by omega
  have m5_c : w.heap.size + 1 < w5.heap.size + 1 := by omega
  have HT5 := Lib.hid (HT4.out.below bb5)
  have HC5 := Lib.hid (HC4.out.below bb5)
  have HL5 := Lib.hid (HL4.out.below bb5)
  have HH5 := Lib.hid (HH4.out.below bb5)
  have HE5 := Lib.hid (HE4.out.below bb5)
  have BE5 := Lib.hid be5
  clear be5 bb5 hb5 BE4 c4_t_0 c4_t_1 c4_t_2 c4_t_3 c4_t_4 l4_t m4_t c4_c_0 c4_c_1 c4_c_2 c4_c_3 c4_c_4 c4_c_5 c4_c_6 c4_c_7 l4_c m4_c HT4 HC4 HL4 HH4 HE4
  go_wp2_with fail
  go_ret
  exact ⟨rfl, (by have q := BE5.out; repeat (first | exact q | refine Below.setCell ?_ (by first | (simp; done) | omega | (simp; omega)) _ | refine Below.alloc ?_ (by first | (simp; done) | omega | (simp; omega)) _ | refine below_drewN ?_ _ | refine Below.drew ?_))⟩
set_option maxRecDepth 100000 in
set_option maxHeartbeats 1600000 in
theorem mo_in (t : Dl.T) (c : Cal) (q1 q2 : Option Addr) (cap1 cap2 : Nat) (lo hi : List Wh) (a b : Int) (w : World) (ht : TAt w t) (hn : LenOK t) (hc : CalIn w c) (hl : EvAt w q1 lo) (hh : EvAt w q2 hi) (he : Env w) (hs : smallB t lo = true) (hln : lo.length ≤ 40) (hlh : hi.length ≤ 40) (ho : ordL lo hi = true) (ha : evalS t c lo = (a, true, 0)) (hb : evalS t c hi = (b, true, 0)) (hab : a ≤ b) :
    Calls Tryd.prog 3 #[.agg #[.int .i64 t.kd, .int .i64 t.n, .int .i64 t.ev, .bool t.bz, .slice t.p t.kids.length t.cap], .agg #[.bool c.b0, .bool c.b1, .bool c.b2, .bool c.b3, .bool c.b4, .bool c.b5, .bool c.b6, .slice c.p c.hs.length c.cap], .slice q1 lo.length cap1, .slice q2 hi.length cap2] w fun e w' => e = .returned (.bool true) ∧ Below w.heap.size w w' := by
  have HT0 := Lib.hid ht
  clear ht
  have HC0 := Lib.hid hc
  clear hc
  have HL0 := Lib.hid hl
  clear hl
  have HH0 := Lib.hid hh
  clear hh
  have HE0 := Lib.hid he
  clear he
  have HN := Lib.hid hn
  clear hn
  have HS := Lib.hid hs
  clear hs
  have HO := Lib.hid ho
  clear ho
  have HA := Lib.hid ha
  clear ha
  have HB := Lib.hid hb
  clear hb
  have hab' : decide (a ≤ b) = true := decide_eq_true hab
  go_enter Tryd.func3, Tryd.ntmps3
  go_wp2_with fail
  refine (head_any _ (HE0.out.below (by repeat (first | exact Below.refl _ _ | assumption | refine below_drewN ?_ _ | refine Below.setCell ?_ (by first | (simp; done) | (simp; omega)) _ | refine Below.alloc ?_ (by first | (simp; done) | (simp; omega) | omega) _ | refine Below.drew ?_ | refine Below.trans ?_ (Below.mono (by assumption) (by first | (simp; done) | (simp; omega) | omega)))))).mono ?_
  rintro e w1 ⟨rfl, hb1⟩
  have hz1 := hb1.size
  (try simp at hz1)
  have bb1 : Below w.heap.size w w1 := (by repeat (first | exact Below.refl _ _ | assumption | refine below_drewN ?_ _ | refine Below.setCell ?_ (by first | (simp; done) | (simp; omega)) _ | refine Below.alloc ?_ (by first | (simp; done) | (simp; omega) | omega) _ | refine Below.drew ?_ | refine Below.trans ?_ (Below.mono (by assumption) (by first | (simp; done) | (simp; omega) | omega))))
  have be1 : Below w.heap.size w w1 := bb1
  have c1_t_0 : w1.cell? ⟨w.heap.size, 0, none⟩ = some (.int .i64 t.kd) := cell_keep hb1 (by go_simp)
  have c1_t_1 : w1.cell? ⟨w.heap.size, 1, none⟩ = some (.int .i64 t.n) := cell_keep hb1 (by go_simp)
  have c1_t_2 : w1.cell? ⟨w.heap.size, 2, none⟩ = some (.int .i64 t.ev) := cell_keep hb1 (by go_simp)
  have c1_t_3 : w1.cell? ⟨w.heap.size, 3, none⟩ = some (.bool t.bz) := cell_keep hb1 (by go_simp)
  have c1_t_4 : w1.cell? ⟨w.heap.size, 4, none⟩ = some (.slice t.p t.kids.length t.cap) := cell_keep hb1 (by go_simp)
  have l1_t : w.heap.size < w1.heap.size := by omega
  have m1_t : w.heap.size < w1.heap.size + 1 := by omega
  have c1_c_0 : w1.cell? ⟨w.heap.size + 1, 0, none⟩ = some (.bool c.b0) := cell_keep hb1 (by go_simp)
  have c1_c_1 : w1.cell? ⟨w.heap.size + 1, 1, none⟩ = some (.bool c.b1) := cell_keep hb1 (by go_simp)
  have c1_c_2 : w1.cell? ⟨w.heap.size + 1, 2, none⟩ = some (.bool c.b2) := cell_keep hb1 (by go_simp)
  have c1_c_3 : w1.cell? ⟨w.heap.size + 1, 3, none⟩ = some (.bool c.b3) := cell_keep hb1 (by go_simp)
  have c1_c_4 : w1.cell? ⟨w.heap.size + 1, 4, none⟩ = some (.bool c.b4) := cell_keep hb1 (by go_simp)
  have c1_c_5 : w1.cell? ⟨w.heap.size + 1, 5, none⟩ = some (.bool c.b5) := cell_keep hb1 (by go_simp)
  have c1_c_6 : w1.cell? ⟨w.heap.size + 1, 6, none⟩ = some (.bool c.b6) := cell_keep hb1 (by go_simp)
  have c1_c_7 : w1.cell? ⟨w.heap.size + 1, 7, none⟩ = some (.slice c.p c.hs.length c.cap) := cell_keep hb1 (by go_simp)
  have l1_c : w.heap.size + 1 < w1.heap.size := by omega
  have m1_c : w.heap.size + 1 < w1.heap.size + 1 := by omega
  have HT1 := Lib.hid (HT0.out.below bb1)
  have HC1 := Lib.hid (HC0.out.below bb1)
  have HL1 := Lib.hid (HL0.out.below bb1)
  have HH1 := Lib.hid (HH0.out.below bb1)
  have HE1 := Lib.hid (HE0.out.below bb1)
  have BE1 := Lib.hid be1
  clear be1 bb1 hb1 HT0 HC0 HL0 HH0 HE0
  go_wp2_with fail
  refine (small_any t q1 lo cap1 _ HN.out (HT1.out.below (by repeat (first | exact Below.refl _ _ | assumption | refine below_drewN ?_ _ | refine Below.setCell ?_ (by first | (simp; done) | (simp; omega)) _ | refine Below.alloc ?_ (by first | (simp; done) | (simp; omega) | omega) _ | refine Below.drew ?_ | refine Below.trans ?_ (Below.mono (by assumption) (by first | (simp; done) | (simp; omega) | omega)))))).mono ?_
  rintro e w2 ⟨rfl, hb2⟩
  rw [HS.out]
  have hz2 := hb2.size
  (try simp at hz2)
  have bb2 : Below w1.heap.size w1 w2 := (by repeat (first | exact Below.refl _ _ | assumption | refine below_drewN ?_ _ | refine Below.setCell ?_ (by first | (simp; done) | (simp; omega)) _ | refine Below.alloc ?_ (by first | (simp; done) | (simp; omega) | omega) _ | refine Below.drew ?_ | refine Below.trans ?_ (Below.mono (by assumption) (by first | (simp; done) | (simp; omega) | omega))))
  have be2 : Below w.heap.size w w2 := BE1.out.trans (bb2.mono BE1.out.size)
  have c2_t_0 : w2.cell? ⟨w.heap.size, 0, none⟩ = some (.int .i64 t.kd) := cell_keep bb2 c1_t_0
  have c2_t_1 : w2.cell? ⟨w.heap.size, 1, none⟩ = some (.int .i64 t.n) := cell_keep bb2 c1_t_1
  have c2_t_2 : w2.cell? ⟨w.heap.size, 2, none⟩ = some (.int .i64 t.ev) := cell_keep bb2 c1_t_2
  have c2_t_3 : w2.cell? ⟨w.heap.size, 3, none⟩ = some (.bool t.bz) := cell_keep bb2 c1_t_3
  have c2_t_4 : w2.cell? ⟨w.heap.size, 4, none⟩ = some (.slice t.p t.kids.length t.cap) := cell_keep bb2 c1_t_4
  have l2_t : w.heap.size < w2.heap.size := by omega
  have m2_t : w.heap.size < w2.heap.size + 1 := by omega
  have c2_c_0 : w2.cell? ⟨w.heap.size + 1, 0, none⟩ = some (.bool c.b0) := cell_keep bb2 c1_c_0
  have c2_c_1 : w2.cell? ⟨w.heap.size + 1, 1, none⟩ = some (.bool c.b1) := cell_keep bb2 c1_c_1
  have c2_c_2 : w2.cell? ⟨w.heap.size + 1, 2, none⟩ = some (.bool c.b2) := cell_keep bb2 c1_c_2
  have c2_c_3 : w2.cell? ⟨w.heap.size + 1, 3, none⟩ = some (.bool c.b3) := cell_keep bb2 c1_c_3
  have c2_c_4 : w2.cell? ⟨w.heap.size + 1, 4, none⟩ = some (.bool c.b4) := cell_keep bb2 c1_c_4
  have c2_c_5 : w2.cell? ⟨w.heap.size + 1, 5, none⟩ = some (.bool c.b5) := cell_keep bb2 c1_c_5
  have c2_c_6 : w2.cell? ⟨w.heap.size + 1, 6, none⟩ = some (.bool c.b6) := cell_keep bb2 c1_c_6
  have c2_c_7 : w2.cell? ⟨w.heap.size + 1, 7, none⟩ = some (.slice c.p c.hs.length c.cap) := cell_keep bb2 c1_c_7
  have l2_c : w.heap.size + 1 < w2.heap.size := by omega
  have m2_c : w.heap.size + 1 < w2.heap.size + 1 := by omega
  have HT2 := Lib.hid (HT1.out.below bb2)
  have HC2 := Lib.hid (HC1.out.below bb2)
  have HL2 := Lib.hid (HL1.out.below bb2)
  have HH2 := Lib.hid (HH1.out.below bb2)
  have HE2 := Lib.hid (HE1.out.below bb2)
  have BE2 := Lib.hid be2
  clear be2 bb2 hb2 BE1 c1_t_0 c1_t_1 c1_t_2 c1_t_3 c1_t_4 l1_t m1_t c1_c_0 c1_c_1 c1_c_2 c1_c_3 c1_c_4 c1_c_5 c1_c_6 c1_c_7 l1_c m1_c HT1 HC1 HL1 HH1 HE1
  go_wp2_with fail
  refine (ordered_calls q1 q2 cap1 cap2 lo hi _ (by omega) (HL2.out.below (by repeat (first | exact Below.refl _ _ | assumption | refine below_drewN ?_ _ | refine Below.setCell ?_ (by first | (simp; done) | (simp; omega)) _ | refine Below.alloc ?_ (by first | (simp; done) | (simp; omega) | omega) _ | refine Below.drew ?_ | refine Below.trans ?_ (Below.mono (by assumption) (by first | (simp; done) | (simp; omega) | omega))))) (HH2.out.below (by repeat (first | exact Below.refl _ _ | assumption | refine below_drewN ?_ _ | refine Below.setCell ?_ (by first | (simp; done) | (simp; omega)) _ | refine Below.alloc ?_ (by first | (simp; done) | (simp; omega) | omega) _ | refine Below.drew ?_ | refine Below.trans ?_ (Below.mono (by assumption) (by first | (simp; done) | (simp; omega) | omega)))))).mono ?_
  rintro e w3 ⟨rfl, hb3⟩
  rw [HO.out]
  have hz3 := hb3.size
  (try simp at hz3)
  have bb3 : Below w2.heap.size w2 w3 := (by repeat (first | exact Below.refl _ _ | assumption | refine below_drewN ?_ _ | refine Below.setCell ?_ (by first | (simp; done) | (simp; omega)) _ | refine Below.alloc ?_ (by first | (simp; done) | (simp; omega) | omega) _ | refine Below.drew ?_ | refine Below.trans ?_ (Below.mono (by assumption) (by first | (simp; done) | (simp; omega) | omega))))
  have be3 : Below w.heap.size w w3 := BE2.out.trans (bb3.mono BE2.out.size)
  have c3_t_0 : w3.cell? ⟨w.heap.size, 0, none⟩ = some (.int .i64 t.kd) := cell_keep bb3 c2_t_0
  have c3_t_1 : w3.cell? ⟨w.heap.size, 1, none⟩ = some (.int .i64 t.n) := cell_keep bb3 c2_t_1
  have c3_t_2 : w3.cell? ⟨w.heap.size, 2, none⟩ = some (.int .i64 t.ev) := cell_keep bb3 c2_t_2
  have c3_t_3 : w3.cell? ⟨w.heap.size, 3, none⟩ = some (.bool t.bz) := cell_keep bb3 c2_t_3
  have c3_t_4 : w3.cell? ⟨w.heap.size, 4, none⟩ = some (.slice t.p t.kids.length t.cap) := cell_keep bb3 c2_t_4
  have l3_t : w.heap.size < w3.heap.size := by omega
  have m3_t : w.heap.size < w3.heap.size + 1 := by omega
  have c3_c_0 : w3.cell? ⟨w.heap.size + 1, 0, none⟩ = some (.bool c.b0) := cell_keep bb3 c2_c_0
  have c3_c_1 : w3.cell? ⟨w.heap.size + 1, 1, none⟩ = some (.bool c.b1) := cell_keep bb3 c2_c_1
  have c3_c_2 : w3.cell? ⟨w.heap.size + 1, 2, none⟩ = some (.bool c.b2) := cell_keep bb3 c2_c_2
  have c3_c_3 : w3.cell? ⟨w.heap.size + 1, 3, none⟩ = some (.bool c.b3) := cell_keep bb3 c2_c_3
  have c3_c_4 : w3.cell? ⟨w.heap.size + 1, 4, none⟩ = some (.bool c.b4) := cell_keep bb3 c2_c_4
  have c3_c_5 : w3.cell? ⟨w.heap.size + 1, 5, none⟩ = some (.bool c.b5) := cell_keep bb3 c2_c_5
  have c3_c_6 : w3.cell? ⟨w.heap.size + 1, 6, none⟩ = some (.bool c.b6) := cell_keep bb3 c2_c_6
  have c3_c_7 : w3.cell? ⟨w.heap.size + 1, 7, none⟩ = some (.slice c.p c.hs.length c.cap) := cell_keep bb3 c2_c_7
  have l3_c : w.heap.size + 1 < w3.heap.size := by omega
  have m3_c : w.heap.size + 1 < w3.heap.size + 1 := by omega
  have HT3 := Lib.hid (HT2.out.below bb3)
  have HC3 := Lib.hid (HC2.out.below bb3)
  have HL3 := Lib.hid (HL2.out.below bb3)
  have HH3 := Lib.hid (HH2.out.below bb3)
  have HE3 := Lib.hid (HE2.out.below bb3)
  have BE3 := Lib.hid be3
  clear be3 bb3 hb3 BE2 c2_t_0 c2_t_1 c2_t_2 c2_t_3 c2_t_4 l2_t m2_t c2_c_0 c2_c_1 c2_c_2 c2_c_3 c2_c_4 c2_c_5 c2_c_6 c2_c_7 l2_c m2_c HT2 HC2 HL2 HH2 HE2
  go_wp2_with fail
  refine (eval_at t c q1 cap1 lo _ (HT3.out.below (by repeat (first | exact Below.refl _ _ | assumption | refine below_drewN ?_ _ | refine Below.setCell ?_ (by first | (simp; done) | (simp; omega)) _ | refine Below.alloc ?_ (by first | (simp; done) | (simp; omega) | omega) _ | refine Below.drew ?_ | refine Below.trans ?_ (Below.mono (by assumption) (by first | (simp; done) | (simp; omega) | omega))))) (HC3.out.below (by repeat (first | exact Below.refl _ _ | assumption | refine below_drewN ?_ _ | refine Below.setCell ?_ (by first | (simp; done) | (simp; omega)) _ | refine Below.alloc ?_ (by first | (simp; done) | (simp; omega) | omega) _ | refine Below.drew ?_ | refine Below.trans ?_ (Below.mono (by assumption) (by first | (simp; done) | (simp; omega) | omega))))) (HL3.out.below (by repeat (first | exact Below.refl _ _ | assumption | refine below_drewN ?_ _ | refine Below.setCell ?_ (by first | (simp; done) | (simp; omega)) _ | refine Below.alloc ?_ (by first | (simp; done) | (simp; omega) | omega) _ | refine Below.drew ?_ | refine Below.trans ?_ (Below.mono (by assumption) (by first | (simp; done) | (simp; omega) | omega))))) (by omega) (HE3.out.below (by repeat (first | exact Below.refl _ _ | assumption | refine below_drewN ?_ _ | refine Below.setCell ?_ (by first | (simp; done) | (simp; omega)) _ | refine Below.alloc ?_ (by first | (simp; done) | (simp; omega) | omega) _ | refine Below.drew ?_ | refine Below.trans ?_ (Below.mono (by assumption) (by first | (simp; done) | (simp; omega) | omega)))))).mono ?_
  rintro e w4 ⟨rfl, hb4⟩
  rw [HA.out]
  simp only [R3]
  have hz4 := hb4.size
  (try simp at hz4)
  have bb4 : Below w3.heap.size w3 w4 := (by repeat (first | exact Below.refl _ _ | assumption | refine below_drewN ?_ _ | refine Below.setCell ?_ (by first | (simp; done) | (simp; omega)) _ | refine Below.alloc ?_ (by first | (simp; done) | (simp; omega) | omega) _ | refine Below.drew ?_ | refine Below.trans ?_ (Below.mono (by assumption) (by first | (simp; done) | (simp; omega) | omega))))
  have be4 : Below w.heap.size w w4 := BE3.out.trans (bb4.mono BE3.out.size)
  have c4_t_0 : w4.cell? ⟨w.heap.size, 0, none⟩ = some (.int .i64 t.kd) := cell_keep bb4 c3_t_0
  have c4_t_1 : w4.cell? ⟨w.heap.size, 1, none⟩ = some (.int .i64 t.n) := cell_keep bb4 c3_t_1
  have c4_t_2 : w4.cell? ⟨w.heap.size, 2, none⟩ = some (.int .i64 t.ev) := cell_keep bb4 c3_t_2
  have c4_t_3 : w4.cell? ⟨w.heap.size, 3, none⟩ = some (.bool t.bz) := cell_keep bb4 c3_t_3
  have c4_t_4 : w4.cell? ⟨w.heap.size, 4, none⟩ = some (.slice t.p t.kids.length t.cap) := cell_keep bb4 c3_t_4
  have l4_t : w.heap.size < w4.heap.size := by omega
  have m4_t : w.heap.size < w4.heap.size + 1 := by omega
  have c4_c_0 : w4.cell? ⟨w.heap.size + 1, 0, none⟩ = some (.bool c.b0) := cell_keep bb4 c3_c_0
  have c4_c_1 : w4.cell? ⟨w.heap.size + 1, 1, none⟩ = some (.bool c.b1) := cell_keep bb4 c3_c_1
  have c4_c_2 : w4.cell? ⟨w.heap.size + 1, 2, none⟩ = some (.bool c.b2) := cell_keep bb4 c3_c_2
  have c4_c_3 : w4.cell? ⟨w.heap.size + 1, 3, none⟩ = some (.bool c.b3) := cell_keep bb4 c3_c_3
  have c4_c_4 : w4.cell? ⟨w.heap.size + 1, 4, none⟩ = some (.bool c.b4) := cell_keep bb4 c3_c_4
  have c4_c_5 : w4.cell? ⟨w.heap.size + 1, 5, none⟩ = some (.bool c.b5) := cell_keep bb4 c3_c_5
  have c4_c_6 : w4.cell? ⟨w.heap.size + 1, 6, none⟩ = some (.bool c.b6) := cell_keep bb4 c3_c_6
  have c4_c_7 : w4.cell? ⟨w.heap.size + 1, 7, none⟩ = some (.slice c.p c.hs.length c.cap) := cell_keep bb4 c3_c_7
  have l4_c : w.heap.size + 1 < w4.heap.size := by omega
  have m4_c : w.heap.size + 1 < w4.heap.size + 1 := by omega
  have HT4 := Lib.hid (HT3.out.below bb4)
  have HC4 := Lib.hid (HC3.out.below bb4)
  have HL4 := Lib.hid (HL3.out.below bb4)
  have HH4 := Lib.hid (HH3.out.below bb4)
  have HE4 := Lib.hid (HE3.out.below bb4)
  have BE4 := Lib.hid be4
  clear be4 bb4 hb4 BE3 c3_t_0 c3_t_1 c3_t_2 c3_t_3 c3_t_4 l3_t m3_t c3_c_0 c3_c_1 c3_c_2 c3_c_3 c3_c_4 c3_c_5 c3_c_6 c3_c_7 l3_c m3_c HT3 HC3 HL3 HH3 HE3
  go_wp2_with fail
  refine (eval_at t c q2 cap2 hi _ (HT4.out.below (by repeat (first | exact Below.refl _ _ | assumption | refine below_drewN ?_ _ | refine Below.setCell ?_ (by first | (simp; done) | (simp; omega)) _ | refine Below.alloc ?_ (by first | (simp; done) | (simp; omega) | omega) _ | refine Below.drew ?_ | refine Below.trans ?_ (Below.mono (by assumption) (by first | (simp; done) | (simp; omega) | omega))))) (HC4.out.below (by repeat (first | exact Below.refl _ _ | assumption | refine below_drewN ?_ _ | refine Below.setCell ?_ (by first | (simp; done) | (simp; omega)) _ | refine Below.alloc ?_ (by first | (simp; done) | (simp; omega) | omega) _ | refine Below.drew ?_ | refine Below.trans ?_ (Below.mono (by assumption) (by first | (simp; done) | (simp; omega) | omega))))) (HH4.out.below (by repeat (first | exact Below.refl _ _ | assumption | refine below_drewN ?_ _ | refine Below.setCell ?_ (by first | (simp; done) | (simp; omega)) _ | refine Below.alloc ?_ (by first | (simp; done) | (simp; omega) | omega) _ | refine Below.drew ?_ | refine Below.trans ?_ (Below.mono (by assumption) (by first | (simp; done) | (simp; omega) | omega))))) (by omega) (HE4.out.below (by repeat (first | exact Below.refl _ _ | assumption | refine below_drewN ?_ _ | refine Below.setCell ?_ (by first | (simp; done) | (simp; omega)) _ | refine Below.alloc ?_ (by first | (simp; done) | (simp; omega) | omega) _ | refine Below.drew ?_ | refine Below.trans ?_ (Below.mono (by assumption) (by first | (simp; done) | (simp; omega) | omega)))))).mono ?_
  rintro e w5 ⟨rfl, hb5⟩
  rw [HB.out]
  simp only [R3]
  have hz5 := hb5.size
  (try simp at hz5)
  have bb5 : Below w4.heap.size w4 w5 := (by repeat (first | exact Below.refl _ _ | assumption | refine below_drewN ?_ _ | refine Below.setCell ?_ (by first | (simp; done) | (simp; omega)) _ | refine Below.alloc ?_ (by first | (simp; done) | (simp; omega) | omega) _ | refine Below.drew ?_ | refine Below.trans ?_ (Below.mono (by assumption) (by first | (simp; done) | (simp; omega) | omega))))
  have be5 : Below w.heap.size w w5 := BE4.out.trans (bb5.mono BE4.out.size)
  have c5_t_0 : w5.cell? ⟨w.heap.size, 0, none⟩ = some (.int .i64 t.kd) := cell_keep bb5 c4_t_0
  have c5_t_1 : w5.cell? ⟨w.heap.size, 1, none⟩ = some (.int .i64 t.n) := cell_keep bb5 c4_t_1
  have c5_t_2 : w5.cell? ⟨w.heap.size, 2, none⟩ = some (.int .i64 t.ev) := cell_keep bb5 c4_t_2
  have c5_t_3 : w5.cell? ⟨w.heap.size, 3, none⟩ = some (.bool t.bz) := cell_keep bb5 c4_t_3
  have c5_t_4 : w5.cell? ⟨w.heap.size, 4, none⟩ = some (.slice t.p t.kids.length t.cap) := cell_keep bb5 c4_t_4
  have l5_t : w.heap.size < w5.heap.size := by omega
  have m5_t : w.heap.size < w5.heap.size + 1 := by omega
  have c5_c_0 : w5.cell? ⟨w.heap.size + 1, 0, none⟩ = some (.bool c.b0) := cell_keep bb5 c4_c_0
  have c5_c_1 : w5.cell? ⟨w.heap.size + 1, 1, none⟩ = some (.bool c.b1) := cell_keep bb5 c4_c_1
  have c5_c_2 : w5.cell? ⟨w.heap.size + 1, 2, none⟩ = some (.bool c.b2) := cell_keep bb5 c4_c_2
  have c5_c_3 : w5.cell? ⟨w.heap.size + 1, 3, none⟩ = some (.bool c.b3) := cell_keep bb5 c4_c_3
  have c5_c_4 : w5.cell? ⟨w.heap.size + 1, 4, none⟩ = some (.bool c.b4) := cell_keep bb5 c4_c_4
  have c5_c_5 : w5.cell? ⟨w.heap.size + 1, 5, none⟩ = some (.bool c.b5) := cell_keep bb5 c4_c_5
  have c5_c_6 : w5.cell? ⟨w.heap.size + 1, 6, none⟩ = some (.bool c.b6) := cell_keep bb5 c4_c_6
  have c5_c_7 : w5.cell? ⟨w.heap.size + 1, 7, none⟩ = some (.slice c.p c.hs.length c.cap) := cell_keep bb5 c4_c_7
  have l5_c : w.heap.size + 1 < w5.heap.size := by omega
  have m5_c : w.heap.size + 1 < w5.heap.size + 1 := by omega
  have HT5 := Lib.hid (HT4.out.below bb5)
  have HC5 := Lib.hid (HC4.out.below bb5)
  have HL5 := Lib.hid (HL4.out.below bb5)
  have HH5 := Lib.hid (HH4.out.below bb5)
  have HE5 := Lib.hid (HE4.out.below bb5)
  have BE5 := Lib.hid be5
  clear be5 bb5 hb5 BE4 c4_t_0 c4_t_1 c4_t_2 c4_t_3 c4_t_4 l4_t m4_t c4_c_0 c4_c_1 c4_c_2 c4_c_3 c4_c_4 c4_c_5 c4_c_6 c4_c_7 l4_c m4_c HT4 HC4 HL4 HH4 HE4
  go_wp2_with fail
  go_ret
  exact ⟨rfl, (by have q := BE5.out; repeat (first | exact q | refine Below.setCell ?_ (by first | (simp; done) | omega | (simp; omega)) _ | refine Below.alloc ?_ (by first | (simp; done) | omega | (simp; omega)) _ | refine below_drewN ?_ _ | refine Below.drew ?_))⟩
theorem mono_law (t : Dl.T) (c : Cal) (q1 q2 : Option Addr) (cap1 cap2 : Nat) (lo hi : List Wh) (w : World) (ht : TAt w t) (hn : LenOK t) (hc : CalIn w c) (hl : EvAt w q1 lo) (hh : EvAt w q2 hi) (he : Env w) : Calls Tryd.prog 3 #[.agg #[.int .i64 t.kd, .int .i64 t.n, .int .i64 t.ev, .bool t.bz, .slice t.p t.kids.length t.cap], .agg #[.bool c.b0, .bool c.b1, .bool c.b2, .bool c.b3, .bool c.b4, .bool c.b5, .bool c.b6, .slice c.p c.hs.length c.cap], .slice q1 lo.length cap1, .slice q2 hi.length cap2] w fun e w' => e = .returned (.bool true) ∧ Below w.heap.size w w' := by
  cases hs : smallB t lo with
  | false => exact mo_small t c q1 q2 cap1 cap2 lo hi w ht hn hc hl hh he hs
  | true =>
    have hln := small_len hs
    cases ho : ordL lo hi with
    | false => exact mo_ord t c q1 q2 cap1 cap2 lo hi w ht hn hc hl hh he hs hln ho
    | true =>
      have hlh : hi.length ≤ 40 := by rw [← ordL_len ho]; exact hln
      obtain ⟨⟨a, ok, e⟩, ha⟩ : ∃ x, evalS t c lo = x := ⟨_, rfl⟩
      obtain ⟨⟨b, is, f⟩, hb⟩ : ∃ x, evalS t c hi = x := ⟨_, rfl⟩
      have hm := eval_mono t c ho
      rw [ha, hb] at hm
      simp only [Prod.mk.injEq] at hm
      rcases hm with ⟨rfl, rfl, rfl⟩ | ⟨rfl, rfl, rfl⟩ | ⟨⟨rfl, rfl, rfl⟩, ⟨rfl, rfl, rfl⟩⟩ | ⟨a', b', ⟨rfl, rfl, rfl⟩, ⟨rfl, rfl, rfl⟩, hab⟩ | ⟨⟨rfl, rfl, rfl⟩, _⟩
      · rcases eval_forms t c hi with h1 | h2 | h3
        · rw [hb] at h1
          simp only [Prod.mk.injEq] at h1
          obtain ⟨rfl, rfl, rfl⟩ := h1
          exact mo_f1 t c q1 q2 cap1 cap2 lo hi _ _ _ w ht hn hc hl hh he hs hln hlh ho ha hb
        · rw [hb] at h2
          simp only [Prod.mk.injEq] at h2
          obtain ⟨rfl, rfl, rfl⟩ := h2
          exact mo_f2 t c q1 q2 cap1 cap2 lo hi _ _ _ w ht hn hc hl hh he hs hln hlh ho ha hb
        · rw [hb] at h3
          have h3 : f = 0 := h3
          subst h3
          exact mo_e1 t c q1 q2 cap1 cap2 lo hi _ _ w ht hn hc hl hh he hs hln hlh ho ha hb
      · exact mo_f1 t c q1 q2 cap1 cap2 lo hi _ _ _ w ht hn hc hl hh he hs hln hlh ho ha hb
      · exact mo_un t c q1 q2 cap1 cap2 lo hi w ht hn hc hl hh he hs hln hlh ho ha hb
      · exact mo_in t c q1 q2 cap1 cap2 lo hi _ _ w ht hn hc hl hh he hs hln hlh ho ha hb hab
      · exact mo_f2 t c q1 q2 cap1 cap2 lo hi _ _ _ w ht hn hc hl hh he hs hln hlh ho ha hb
end Go.Proofs.YtlbfnafniobnaaaDoor

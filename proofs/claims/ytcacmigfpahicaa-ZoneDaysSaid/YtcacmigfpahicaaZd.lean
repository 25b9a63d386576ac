/- ZoneDays: the walk of the law. -/
import Derived.Test.YtcacmigfpahicaaZnH
namespace Go.Proofs.Ytcacmigfpahicaa
open Go.RowKit Go.Shelf

set_option maxRecDepth 100000 in
set_option maxHeartbeats 1600000 in
theorem days_many (o : Int) (p : Option Addr) (cs : List (Int × Int)) (cap : Nat) (r s : Int) (w : World) (hcg : Chg w p cs) (hn : 100 < cs.length) :
    Calls Try.prog 7 #[.agg #[.int .i64 o, .slice p cs.length cap], .int .u32 r, .int .u32 s] w fun e w' => e = .returned (.bool true) ∧ Below w.heap.size w w' := by
  have HCH0 := Lib.hid hcg
  clear hcg
  go_enter Try.func7, Try.ntmps7
  go_wp2_with fail
  refine (head_any _).mono ?_
  rintro e w1 ⟨rfl, hb1⟩
  have hz1 := hb1.size
  (try simp at hz1)
  have bb1 : Below w.heap.size w w1 := (by repeat (first | exact Below.refl _ _ | assumption | refine below_drewN ?_ _ | refine Below.setCell ?_ (by first | (simp; done) | (simp; omega)) _ | refine Below.alloc ?_ (by first | (simp; done) | (simp; omega) | omega) _ | refine Below.drew ?_ | refine Below.trans ?_ (Below.mono (by assumption) (by first | (simp; done) | (simp; omega) | omega))))
  have be1 : Below w.heap.size w w1 := bb1
  have hch1 := HCH0.out.below bb1
  have c1_z_0 : w1.cell? ⟨w.heap.size, 0, none⟩ = some (.int .i64 o) := cell_keep hb1 (by go_simp)
  have c1_z_1 : w1.cell? ⟨w.heap.size, 1, none⟩ = some (.slice p cs.length cap) := cell_keep hb1 (by go_simp)
  have l1_z : w.heap.size < w1.heap.size := by omega
  have m1_z : w.heap.size < w1.heap.size + 1 := by omega
  have BE1 := Lib.hid be1
  have HCH1 := Lib.hid hch1
  clear be1 hch1 bb1 hb1 HCH0
  go_wp2_with fail
  refine (few_no o p cs cap _ hn).mono ?_
  rintro e w2 ⟨rfl, hb2⟩
  have hz2 := hb2.size
  (try simp at hz2)
  have bb2 : Below w1.heap.size w1 w2 := (by repeat (first | exact Below.refl _ _ | assumption | refine below_drewN ?_ _ | refine Below.setCell ?_ (by first | (simp; done) | (simp; omega)) _ | refine Below.alloc ?_ (by first | (simp; done) | (simp; omega) | omega) _ | refine Below.drew ?_ | refine Below.trans ?_ (Below.mono (by assumption) (by first | (simp; done) | (simp; omega) | omega))))
  have be2 : Below w.heap.size w w2 := BE1.out.trans (bb2.mono BE1.out.size)
  have hch2 := HCH1.out.below bb2
  have c2_z_0 : w2.cell? ⟨w.heap.size, 0, none⟩ = some (.int .i64 o) := cell_keep bb2 c1_z_0
  have c2_z_1 : w2.cell? ⟨w.heap.size, 1, none⟩ = some (.slice p cs.length cap) := cell_keep bb2 c1_z_1
  have l2_z : w.heap.size < w2.heap.size := by omega
  have m2_z : w.heap.size < w2.heap.size + 1 := by omega
  have BE2 := Lib.hid be2
  have HCH2 := Lib.hid hch2
  clear be2 hch2 bb2 hb2 BE1 HCH1 c1_z_0 c1_z_1 l1_z m1_z
  go_wp2_with fail
  go_ret
  exact ⟨rfl, by have q := BE2.out; repeat (first | exact q | refine Below.alloc ?_ (by first | omega | (simp; omega)) _ | refine below_drewN ?_ _ | refine Below.drew ?_)⟩
set_option maxRecDepth 100000 in
set_option maxHeartbeats 1600000 in
theorem days_err (o : Int) (p : Option Addr) (cs : List (Int × Int)) (cap : Nat) (r s d e u v f : Int) (w : World) (hcg : Chg w p cs) (h0 : 0 ≤ r) (h1 : r ≤ 4294967295) (hd : r % 73047 = d) (hn : cs.length ≤ 100) (hv : Zn.spanS o cs d = (0, 0, e)) (he : (e == 0) = false) (hw : Zn.spanS o cs (d + 1) = (u, v, f)) :
    Calls Try.prog 7 #[.agg #[.int .i64 o, .slice p cs.length cap], .int .u32 r, .int .u32 s] w fun e w' => e = .returned (.bool true) ∧ Below w.heap.size w w' := by
  have HCH0 := Lib.hid hcg
  have wd : wrap64 (d + 1) = d + 1 := by unfold wrap64; omega
  have HD := Lib.hid hd
  clear hcg hd
  have HV := Lib.hid hv
  have HW := Lib.hid hw
  clear hv hw
  go_enter Try.func7, Try.ntmps7
  go_wp2_with fail
  refine (head_any _).mono ?_
  rintro e w1 ⟨rfl, hb1⟩
  have hz1 := hb1.size
  (try simp at hz1)
  have bb1 : Below w.heap.size w w1 := (by repeat (first | exact Below.refl _ _ | assumption | refine below_drewN ?_ _ | refine Below.setCell ?_ (by first | (simp; done) | (simp; omega)) _ | refine Below.alloc ?_ (by first | (simp; done) | (simp; omega) | omega) _ | refine Below.drew ?_ | refine Below.trans ?_ (Below.mono (by assumption) (by first | (simp; done) | (simp; omega) | omega))))
  have be1 : Below w.heap.size w w1 := bb1
  have hch1 := HCH0.out.below bb1
  have c1_z_0 : w1.cell? ⟨w.heap.size, 0, none⟩ = some (.int .i64 o) := cell_keep hb1 (by go_simp)
  have c1_z_1 : w1.cell? ⟨w.heap.size, 1, none⟩ = some (.slice p cs.length cap) := cell_keep hb1 (by go_simp)
  have l1_z : w.heap.size < w1.heap.size := by omega
  have m1_z : w.heap.size < w1.heap.size + 1 := by omega
  have BE1 := Lib.hid be1
  have HCH1 := Lib.hid hch1
  clear be1 hch1 bb1 hb1 HCH0
  go_wp2_with fail
  refine (few_yes o p cs cap _ hn).mono ?_
  rintro e w2 ⟨rfl, hb2⟩
  have hz2 := hb2.size
  (try simp at hz2)
  have bb2 : Below w1.heap.size w1 w2 := (by repeat (first | exact Below.refl _ _ | assumption | refine below_drewN ?_ _ | refine Below.setCell ?_ (by first | (simp; done) | (simp; omega)) _ | refine Below.alloc ?_ (by first | (simp; done) | (simp; omega) | omega) _ | refine Below.drew ?_ | refine Below.trans ?_ (Below.mono (by assumption) (by first | (simp; done) | (simp; omega) | omega))))
  have be2 : Below w.heap.size w w2 := BE1.out.trans (bb2.mono BE1.out.size)
  have hch2 := HCH1.out.below bb2
  have c2_z_0 : w2.cell? ⟨w.heap.size, 0, none⟩ = some (.int .i64 o) := cell_keep bb2 c1_z_0
  have c2_z_1 : w2.cell? ⟨w.heap.size, 1, none⟩ = some (.slice p cs.length cap) := cell_keep bb2 c1_z_1
  have l2_z : w.heap.size < w2.heap.size := by omega
  have m2_z : w.heap.size < w2.heap.size + 1 := by omega
  have BE2 := Lib.hid be2
  have HCH2 := Lib.hid hch2
  clear be2 hch2 bb2 hb2 BE1 HCH1 c1_z_0 c1_z_1 l1_z m1_z
  go_wp2_with fail
  simp only [HD.out]
  refine (span_calls o p cs cap d _ (HCH2.out.below (by repeat (first | exact Below.refl _ _ | assumption | refine below_drewN ?_ _ | refine Below.setCell ?_ (by first | (simp; done) | (simp; omega)) _ | refine Below.alloc ?_ (by first | (simp; done) | (simp; omega) | omega) _ | refine Below.drew ?_ | refine Below.trans ?_ (Below.mono (by assumption) (by first | (simp; done) | (simp; omega) | omega)))))).mono ?_
  rintro e w3 ⟨rfl, hb3⟩
  rw [HV.out, R3]
  have hz3 := hb3.size
  (try simp at hz3)
  have bb3 : Below w2.heap.size w2 w3 := (by repeat (first | exact Below.refl _ _ | assumption | refine below_drewN ?_ _ | refine Below.setCell ?_ (by first | (simp; done) | (simp; omega)) _ | refine Below.alloc ?_ (by first | (simp; done) | (simp; omega) | omega) _ | refine Below.drew ?_ | refine Below.trans ?_ (Below.mono (by assumption) (by first | (simp; done) | (simp; omega) | omega))))
  have be3 : Below w.heap.size w w3 := BE2.out.trans (bb3.mono BE2.out.size)
  have hch3 := HCH2.out.below bb3
  have c3_z_0 : w3.cell? ⟨w.heap.size, 0, none⟩ = some (.int .i64 o) := cell_keep bb3 c2_z_0
  have c3_z_1 : w3.cell? ⟨w.heap.size, 1, none⟩ = some (.slice p cs.length cap) := cell_keep bb3 c2_z_1
  have l3_z : w.heap.size < w3.heap.size := by omega
  have m3_z : w.heap.size < w3.heap.size + 1 := by omega
  have BE3 := Lib.hid be3
  have HCH3 := Lib.hid hch3
  clear be3 hch3 bb3 hb3 BE2 HCH2 c2_z_0 c2_z_1 l2_z m2_z
  go_wp2_with fail
  refine (span_calls o p cs cap (d + 1) _ (HCH3.out.below (by repeat (first | exact Below.refl _ _ | assumption | refine below_drewN ?_ _ | refine Below.setCell ?_ (by first | (simp; done) | (simp; omega)) _ | refine Below.alloc ?_ (by first | (simp; done) | (simp; omega) | omega) _ | refine Below.drew ?_ | refine Below.trans ?_ (Below.mono (by assumption) (by first | (simp; done) | (simp; omega) | omega)))))).mono ?_
  rintro e w4 ⟨rfl, hb4⟩
  rw [HW.out, R3]
  have hz4 := hb4.size
  (try simp at hz4)
  have bb4 : Below w3.heap.size w3 w4 := (by repeat (first | exact Below.refl _ _ | assumption | refine below_drewN ?_ _ | refine Below.setCell ?_ (by first | (simp; done) | (simp; omega)) _ | refine Below.alloc ?_ (by first | (simp; done) | (simp; omega) | omega) _ | refine Below.drew ?_ | refine Below.trans ?_ (Below.mono (by assumption) (by first | (simp; done) | (simp; omega) | omega))))
  have be4 : Below w.heap.size w w4 := BE3.out.trans (bb4.mono BE3.out.size)
  have hch4 := HCH3.out.below bb4
  have c4_z_0 : w4.cell? ⟨w.heap.size, 0, none⟩ = some (.int .i64 o) := cell_keep bb4 c3_z_0
  have c4_z_1 : w4.cell? ⟨w.heap.size, 1, none⟩ = some (.slice p cs.length cap) := cell_keep bb4 c3_z_1
  have l4_z : w.heap.size < w4.heap.size := by omega
  have m4_z : w.heap.size < w4.heap.size + 1 := by omega
  have BE4 := Lib.hid be4
  have HCH4 := Lib.hid hch4
  clear be4 hch4 bb4 hb4 BE3 HCH3 c3_z_0 c3_z_1 l3_z m3_z
  go_wp2_with fail
  go_ret
  exact ⟨rfl, by have q := BE4.out; repeat (first | exact q | refine Below.alloc ?_ (by first | omega | (simp; omega)) _ | refine below_drewN ?_ _ | refine Below.drew ?_)⟩
set_option maxRecDepth 100000 in
set_option maxHeartbeats 1600000 in
theorem days_00 (o : Int) (p : Option Addr) (cs : List (Int × Int)) (cap : Nat) (r s d t x y a am g b bm u v f : Int) (w : World) (hcg : Chg w p cs) (h0 : 0 ≤ r) (h1 : r ≤ 4294967295) (h2 : 0 ≤ s) (h3 : s ≤ 4294967295) (hd : r % 73047 = d) (ht : s % 105190560 = t) (hn : cs.length ≤ 100) (hv : Zn.spanS o cs d = (x, y, 0)) (hxy : x ≤ y) (hx0 : 0 ≤ x) (hx1 : x ≤ 105190559) (hl : Zn.localS o cs t = (a, am, g)) (hm : Zn.localS o cs x = (b, bm, 0)) (hdb : d ≤ b) (hw : Zn.spanS o cs (d + 1) = (u, v, f)) (hf : (f == 0) = false) (hc : x ≤ t) :
    Calls Try.prog 7 #[.agg #[.int .i64 o, .slice p cs.length cap], .int .u32 r, .int .u32 s] w fun e w' => e = .returned (.bool true) ∧ Below w.heap.size w w' := by
  have HCH0 := Lib.hid hcg
  have wd : wrap64 (d + 1) = d + 1 := by unfold wrap64; omega
  have HD := Lib.hid hd
  have HT := Lib.hid ht
  clear hcg hd ht
  have HV := Lib.hid hv
  have HW := Lib.hid hw
  have HL := Lib.hid hl
  have HM := Lib.hid hm
  clear hv hw hl hm
  go_enter Try.func7, Try.ntmps7
  go_wp2_with fail
  refine (head_any _).mono ?_
  rintro e w1 ⟨rfl, hb1⟩
  have hz1 := hb1.size
  (try simp at hz1)
  have bb1 : Below w.heap.size w w1 := (by repeat (first | exact Below.refl _ _ | assumption | refine below_drewN ?_ _ | refine Below.setCell ?_ (by first | (simp; done) | (simp; omega)) _ | refine Below.alloc ?_ (by first | (simp; done) | (simp; omega) | omega) _ | refine Below.drew ?_ | refine Below.trans ?_ (Below.mono (by assumption) (by first | (simp; done) | (simp; omega) | omega))))
  have be1 : Below w.heap.size w w1 := bb1
  have hch1 := HCH0.out.below bb1
  have c1_z_0 : w1.cell? ⟨w.heap.size, 0, none⟩ = some (.int .i64 o) := cell_keep hb1 (by go_simp)
  have c1_z_1 : w1.cell? ⟨w.heap.size, 1, none⟩ = some (.slice p cs.length cap) := cell_keep hb1 (by go_simp)
  have l1_z : w.heap.size < w1.heap.size := by omega
  have m1_z : w.heap.size < w1.heap.size + 1 := by omega
  have BE1 := Lib.hid be1
  have HCH1 := Lib.hid hch1
  clear be1 hch1 bb1 hb1 HCH0
  go_wp2_with fail
  refine (few_yes o p cs cap _ hn).mono ?_
  rintro e w2 ⟨rfl, hb2⟩
  have hz2 := hb2.size
  (try simp at hz2)
  have bb2 : Below w1.heap.size w1 w2 := (by repeat (first | exact Below.refl _ _ | assumption | refine below_drewN ?_ _ | refine Below.setCell ?_ (by first | (simp; done) | (simp; omega)) _ | refine Below.alloc ?_ (by first | (simp; done) | (simp; omega) | omega) _ | refine Below.drew ?_ | refine Below.trans ?_ (Below.mono (by assumption) (by first | (simp; done) | (simp; omega) | omega))))
  have be2 : Below w.heap.size w w2 := BE1.out.trans (bb2.mono BE1.out.size)
  have hch2 := HCH1.out.below bb2
  have c2_z_0 : w2.cell? ⟨w.heap.size, 0, none⟩ = some (.int .i64 o) := cell_keep bb2 c1_z_0
  have c2_z_1 : w2.cell? ⟨w.heap.size, 1, none⟩ = some (.slice p cs.length cap) := cell_keep bb2 c1_z_1
  have l2_z : w.heap.size < w2.heap.size := by omega
  have m2_z : w.heap.size < w2.heap.size + 1 := by omega
  have BE2 := Lib.hid be2
  have HCH2 := Lib.hid hch2
  clear be2 hch2 bb2 hb2 BE1 HCH1 c1_z_0 c1_z_1 l1_z m1_z
  go_wp2_with fail
  simp only [HD.out]
  refine (span_calls o p cs cap d _ (HCH2.out.below (by repeat (first | exact Below.refl _ _ | assumption | refine below_drewN ?_ _ | refine Below.setCell ?_ (by first | (simp; done) | (simp; omega)) _ | refine Below.alloc ?_ (by first | (simp; done) | (simp; omega) | omega) _ | refine Below.drew ?_ | refine Below.trans ?_ (Below.mono (by assumption) (by first | (simp; done) | (simp; omega) | omega)))))).mono ?_
  rintro e w3 ⟨rfl, hb3⟩
  rw [HV.out, R3]
  have hz3 := hb3.size
  (try simp at hz3)
  have bb3 : Below w2.heap.size w2 w3 := (by repeat (first | exact Below.refl _ _ | assumption | refine below_drewN ?_ _ | refine Below.setCell ?_ (by first | (simp; done) | (simp; omega)) _ | refine Below.alloc ?_ (by first | (simp; done) | (simp; omega) | omega) _ | refine Below.drew ?_ | refine Below.trans ?_ (Below.mono (by assumption) (by first | (simp; done) | (simp; omega) | omega))))
  have be3 : Below w.heap.size w w3 := BE2.out.trans (bb3.mono BE2.out.size)
  have hch3 := HCH2.out.below bb3
  have c3_z_0 : w3.cell? ⟨w.heap.size, 0, none⟩ = some (.int .i64 o) := cell_keep bb3 c2_z_0
  have c3_z_1 : w3.cell? ⟨w.heap.size, 1, none⟩ = some (.slice p cs.length cap) := cell_keep bb3 c2_z_1
  have l3_z : w.heap.size < w3.heap.size := by omega
  have m3_z : w.heap.size < w3.heap.size + 1 := by omega
  have BE3 := Lib.hid be3
  have HCH3 := Lib.hid hch3
  clear be3 hch3 bb3 hb3 BE2 HCH2 c2_z_0 c2_z_1 l2_z m2_z
  go_wp2_with fail
  refine (span_calls o p cs cap (d + 1) _ (HCH3.out.below (by repeat (first | exact Below.refl _ _ | assumption | refine below_drewN ?_ _ | refine Below.setCell ?_ (by first | (simp; done) | (simp; omega)) _ | refine Below.alloc ?_ (by first | (simp; done) | (simp; omega) | omega) _ | refine Below.drew ?_ | refine Below.trans ?_ (Below.mono (by assumption) (by first | (simp; done) | (simp; omega) | omega)))))).mono ?_
  rintro e w4 ⟨rfl, hb4⟩
  rw [HW.out, R3]
  have hz4 := hb4.size
  (try simp at hz4)
  have bb4 : Below w3.heap.size w3 w4 := (by repeat (first | exact Below.refl _ _ | assumption | refine below_drewN ?_ _ | refine Below.setCell ?_ (by first | (simp; done) | (simp; omega)) _ | refine Below.alloc ?_ (by first | (simp; done) | (simp; omega) | omega) _ | refine Below.drew ?_ | refine Below.trans ?_ (Below.mono (by assumption) (by first | (simp; done) | (simp; omega) | omega))))
  have be4 : Below w.heap.size w w4 := BE3.out.trans (bb4.mono BE3.out.size)
  have hch4 := HCH3.out.below bb4
  have c4_z_0 : w4.cell? ⟨w.heap.size, 0, none⟩ = some (.int .i64 o) := cell_keep bb4 c3_z_0
  have c4_z_1 : w4.cell? ⟨w.heap.size, 1, none⟩ = some (.slice p cs.length cap) := cell_keep bb4 c3_z_1
  have l4_z : w.heap.size < w4.heap.size := by omega
  have m4_z : w.heap.size < w4.heap.size + 1 := by omega
  have BE4 := Lib.hid be4
  have HCH4 := Lib.hid hch4
  clear be4 hch4 bb4 hb4 BE3 HCH3 c3_z_0 c3_z_1 l3_z m3_z
  go_wp2_with fail
  simp only [HT.out]
  refine (local_calls o p cs cap t _ (HCH4.out.below (by repeat (first | exact Below.refl _ _ | assumption | refine below_drewN ?_ _ | refine Below.setCell ?_ (by first | (simp; done) | (simp; omega)) _ | refine Below.alloc ?_ (by first | (simp; done) | (simp; omega) | omega) _ | refine Below.drew ?_ | refine Below.trans ?_ (Below.mono (by assumption) (by first | (simp; done) | (simp; omega) | omega)))))).mono ?_
  rintro e w5 ⟨rfl, hb5⟩
  rw [HL.out, R3]
  have hz5 := hb5.size
  (try simp at hz5)
  have bb5 : Below w4.heap.size w4 w5 := (by repeat (first | exact Below.refl _ _ | assumption | refine below_drewN ?_ _ | refine Below.setCell ?_ (by first | (simp; done) | (simp; omega)) _ | refine Below.alloc ?_ (by first | (simp; done) | (simp; omega) | omega) _ | refine Below.drew ?_ | refine Below.trans ?_ (Below.mono (by assumption) (by first | (simp; done) | (simp; omega) | omega))))
  have be5 : Below w.heap.size w w5 := BE4.out.trans (bb5.mono BE4.out.size)
  have hch5 := HCH4.out.below bb5
  have c5_z_0 : w5.cell? ⟨w.heap.size, 0, none⟩ = some (.int .i64 o) := cell_keep bb5 c4_z_0
  have c5_z_1 : w5.cell? ⟨w.heap.size, 1, none⟩ = some (.slice p cs.length cap) := cell_keep bb5 c4_z_1
  have l5_z : w.heap.size < w5.heap.size := by omega
  have m5_z : w.heap.size < w5.heap.size + 1 := by omega
  have BE5 := Lib.hid be5
  have HCH5 := Lib.hid hch5
  clear be5 hch5 bb5 hb5 BE4 HCH4 c4_z_0 c4_z_1 l4_z m4_z
  go_wp2_with fail
  refine (local_calls o p cs cap x _ (HCH5.out.below (by repeat (first | exact Below.refl _ _ | assumption | refine below_drewN ?_ _ | refine Below.setCell ?_ (by first | (simp; done) | (simp; omega)) _ | refine Below.alloc ?_ (by first | (simp; done) | (simp; omega) | omega) _ | refine Below.drew ?_ | refine Below.trans ?_ (Below.mono (by assumption) (by first | (simp; done) | (simp; omega) | omega)))))).mono ?_
  rintro e w6 ⟨rfl, hb6⟩
  rw [HM.out, R3]
  have hz6 := hb6.size
  (try simp at hz6)
  have bb6 : Below w5.heap.size w5 w6 := (by repeat (first | exact Below.refl _ _ | assumption | refine below_drewN ?_ _ | refine Below.setCell ?_ (by first | (simp; done) | (simp; omega)) _ | refine Below.alloc ?_ (by first | (simp; done) | (simp; omega) | omega) _ | refine Below.drew ?_ | refine Below.trans ?_ (Below.mono (by assumption) (by first | (simp; done) | (simp; omega) | omega))))
  have be6 : Below w.heap.size w w6 := BE5.out.trans (bb6.mono BE5.out.size)
  have hch6 := HCH5.out.below bb6
  have c6_z_0 : w6.cell? ⟨w.heap.size, 0, none⟩ = some (.int .i64 o) := cell_keep bb6 c5_z_0
  have c6_z_1 : w6.cell? ⟨w.heap.size, 1, none⟩ = some (.slice p cs.length cap) := cell_keep bb6 c5_z_1
  have l6_z : w.heap.size < w6.heap.size := by omega
  have m6_z : w.heap.size < w6.heap.size + 1 := by omega
  have BE6 := Lib.hid be6
  have HCH6 := Lib.hid hch6
  clear be6 hch6 bb6 hb6 BE5 HCH5 c5_z_0 c5_z_1 l5_z m5_z
  go_wp2_with fail
  go_ret
  exact ⟨by first | rfl | exact ret_bool (decide_eq_true (by omega)), by have q := BE6.out; repeat (first | exact q | refine Below.alloc ?_ (by first | omega | (simp; omega)) _ | refine below_drewN ?_ _ | refine Below.drew ?_)⟩
set_option maxRecDepth 100000 in
set_option maxHeartbeats 1600000 in
theorem days_01 (o : Int) (p : Option Addr) (cs : List (Int × Int)) (cap : Nat) (r s d t x y a am g b bm u v f : Int) (w : World) (hcg : Chg w p cs) (h0 : 0 ≤ r) (h1 : r ≤ 4294967295) (h2 : 0 ≤ s) (h3 : s ≤ 4294967295) (hd : r % 73047 = d) (ht : s % 105190560 = t) (hn : cs.length ≤ 100) (hv : Zn.spanS o cs d = (x, y, 0)) (hxy : x ≤ y) (hx0 : 0 ≤ x) (hx1 : x ≤ 105190559) (hl : Zn.localS o cs t = (a, am, g)) (hm : Zn.localS o cs x = (b, bm, 0)) (hdb : d ≤ b) (hw : Zn.spanS o cs (d + 1) = (u, v, f)) (hf : (f == 0) = false) (hc2 : decide (x ≤ t) = false) (hg0 : (g != 0) = true) :
    Calls Try.prog 7 #[.agg #[.int .i64 o, .slice p cs.length cap], .int .u32 r, .int .u32 s] w fun e w' => e = .returned (.bool true) ∧ Below w.heap.size w w' := by
  have HCH0 := Lib.hid hcg
  have wd : wrap64 (d + 1) = d + 1 := by unfold wrap64; omega
  have HD := Lib.hid hd
  have HT := Lib.hid ht
  clear hcg hd ht
  have HV := Lib.hid hv
  have HW := Lib.hid hw
  have HL := Lib.hid hl
  have HM := Lib.hid hm
  clear hv hw hl hm
  go_enter Try.func7, Try.ntmps7
  go_wp2_with fail
  refine (head_any _).mono ?_
  rintro e w1 ⟨rfl, hb1⟩
  have hz1 := hb1.size
  (try simp at hz1)
  have bb1 : Below w.heap.size w w1 := (by repeat (first | exact Below.refl _ _ | assumption | refine below_drewN ?_ _ | refine Below.setCell ?_ (by first | (simp; done) | (simp; omega)) _ | refine Below.alloc ?_ (by first | (simp; done) | (simp; omega) | omega) _ | refine Below.drew ?_ | refine Below.trans ?_ (Below.mono (by assumption) (by first | (simp; done) | (simp; omega) | omega))))
  have be1 : Below w.heap.size w w1 := bb1
  have hch1 := HCH0.out.below bb1
  have c1_z_0 : w1.cell? ⟨w.heap.size, 0, none⟩ = some (.int .i64 o) := cell_keep hb1 (by go_simp)
  have c1_z_1 : w1.cell? ⟨w.heap.size, 1, none⟩ = some (.slice p cs.length cap) := cell_keep hb1 (by go_simp)
  have l1_z : w.heap.size < w1.heap.size := by omega
  have m1_z : w.heap.size < w1.heap.size + 1 := by omega
  have BE1 := Lib.hid be1
  have HCH1 := Lib.hid hch1
  clear be1 hch1 bb1 hb1 HCH0
  go_wp2_with fail
  refine (few_yes o p cs cap _ hn).mono ?_
  rintro e w2 ⟨rfl, hb2⟩
  have hz2 := hb2.size
  (try simp at hz2)
  have bb2 : Below w1.heap.size w1 w2 := (by repeat (first | exact Below.refl _ _ | assumption | refine below_drewN ?_ _ | refine Below.setCell ?_ (by first | (simp; done) | (simp; omega)) _ | refine Below.alloc ?_ (by first | (simp; done) | (simp; omega) | omega) _ | refine Below.drew ?_ | refine Below.trans ?_ (Below.mono (by assumption) (by first | (simp; done) | (simp; omega) | omega))))
  have be2 : Below w.heap.size w w2 := BE1.out.trans (bb2.mono BE1.out.size)
  have hch2 := HCH1.out.below bb2
  have c2_z_0 : w2.cell? ⟨w.heap.size, 0, none⟩ = some (.int .i64 o) := cell_keep bb2 c1_z_0
  have c2_z_1 : w2.cell? ⟨w.heap.size, 1, none⟩ = some (.slice p cs.length cap) := cell_keep bb2 c1_z_1
  have l2_z : w.heap.size < w2.heap.size := by omega
  have m2_z : w.heap.size < w2.heap.size + 1 := by omega
  have BE2 := Lib.hid be2
  have HCH2 := Lib.hid hch2
  clear be2 hch2 bb2 hb2 BE1 HCH1 c1_z_0 c1_z_1 l1_z m1_z
  go_wp2_with fail
  simp only [HD.out]
  refine (span_calls o p cs cap d _ (HCH2.out.below (by repeat (first | exact Below.refl _ _ | assumption | refine below_drewN ?_ _ | refine Below.setCell ?_ (by first | (simp; done) | (simp; omega)) _ | refine Below.alloc ?_ (by first | (simp; done) | (simp; omega) | omega) _ | refine Below.drew ?_ | refine Below.trans ?_ (Below.mono (by assumption) (by first | (simp; done) | (simp; omega) | omega)))))).mono ?_
  rintro e w3 ⟨rfl, hb3⟩
  rw [HV.out, R3]
  have hz3 := hb3.size
  (try simp at hz3)
  have bb3 : Below w2.heap.size w2 w3 := (by repeat (first | exact Below.refl _ _ | assumption | refine below_drewN ?_ _ | refine Below.setCell ?_ (by first | (simp; done) | (simp; omega)) _ | refine Below.alloc ?_ (by first | (simp; done) | (simp; omega) | omega) _ | refine Below.drew ?_ | refine Below.trans ?_ (Below.mono (by assumption) (by first | (simp; done) | (simp; omega) | omega))))
  have be3 : Below w.heap.size w w3 := BE2.out.trans (bb3.mono BE2.out.size)
  have hch3 := HCH2.out.below bb3
  have c3_z_0 : w3.cell? ⟨w.heap.size, 0, none⟩ = some (.int .i64 o) := cell_keep bb3 c2_z_0
  have c3_z_1 : w3.cell? ⟨w.heap.size, 1, none⟩ = some (.slice p cs.length cap) := cell_keep bb3 c2_z_1
  have l3_z : w.heap.size < w3.heap.size := by omega
  have m3_z : w.heap.size < w3.heap.size + 1 := by omega
  have BE3 := Lib.hid be3
  have HCH3 := Lib.hid hch3
  clear be3 hch3 bb3 hb3 BE2 HCH2 c2_z_0 c2_z_1 l2_z m2_z
  go_wp2_with fail
  refine (span_calls o p cs cap (d + 1) _ (HCH3.out.below (by repeat (first | exact Below.refl _ _ | assumption | refine below_drewN ?_ _ | refine Below.setCell ?_ (by first | (simp; done) | (simp; omega)) _ | refine Below.alloc ?_ (by first | (simp; done) | (simp; omega) | omega) _ | refine Below.drew ?_ | refine Below.trans ?_ (Below.mono (by assumption) (by first | (simp; done) | (simp; omega) | omega)))))).mono ?_
  rintro e w4 ⟨rfl, hb4⟩
  rw [HW.out, R3]
  have hz4 := hb4.size
  (try simp at hz4)
  have bb4 : Below w3.heap.size w3 w4 := (by repeat (first | exact Below.refl _ _ | assumption | refine below_drewN ?_ _ | refine Below.setCell ?_ (by first | (simp; done) | (simp; omega)) _ | refine Below.alloc ?_ (by first | (simp; done) | (simp; omega) | omega) _ | refine Below.drew ?_ | refine Below.trans ?_ (Below.mono (by assumption) (by first | (simp; done) | (simp; omega) | omega))))
  have be4 : Below w.heap.size w w4 := BE3.out.trans (bb4.mono BE3.out.size)
  have hch4 := HCH3.out.below bb4
  have c4_z_0 : w4.cell? ⟨w.heap.size, 0, none⟩ = some (.int .i64 o) := cell_keep bb4 c3_z_0
  have c4_z_1 : w4.cell? ⟨w.heap.size, 1, none⟩ = some (.slice p cs.length cap) := cell_keep bb4 c3_z_1
  have l4_z : w.heap.size < w4.heap.size := by omega
  have m4_z : w.heap.size < w4.heap.size + 1 := by omega
  have BE4 := Lib.hid be4
  have HCH4 := Lib.hid hch4
  clear be4 hch4 bb4 hb4 BE3 HCH3 c3_z_0 c3_z_1 l3_z m3_z
  go_wp2_with fail
  simp only [HT.out]
  refine (local_calls o p cs cap t _ (HCH4.out.below (by repeat (first | exact Below.refl _ _ | assumption | refine below_drewN ?_ _ | refine Below.setCell ?_ (by first | (simp; done) | (simp; omega)) _ | refine Below.alloc ?_ (by first | (simp; done) | (simp; omega) | omega) _ | refine Below.drew ?_ | refine Below.trans ?_ (Below.mono (by assumption) (by first | (simp; done) | (simp; omega) | omega)))))).mono ?_
  rintro e w5 ⟨rfl, hb5⟩
  rw [HL.out, R3]
  have hz5 := hb5.size
  (try simp at hz5)
  have bb5 : Below w4.heap.size w4 w5 := (by repeat (first | exact Below.refl _ _ | assumption | refine below_drewN ?_ _ | refine Below.setCell ?_ (by first | (simp; done) | (simp; omega)) _ | refine Below.alloc ?_ (by first | (simp; done) | (simp; omega) | omega) _ | refine Below.drew ?_ | refine Below.trans ?_ (Below.mono (by assumption) (by first | (simp; done) | (simp; omega) | omega))))
  have be5 : Below w.heap.size w w5 := BE4.out.trans (bb5.mono BE4.out.size)
  have hch5 := HCH4.out.below bb5
  have c5_z_0 : w5.cell? ⟨w.heap.size, 0, none⟩ = some (.int .i64 o) := cell_keep bb5 c4_z_0
  have c5_z_1 : w5.cell? ⟨w.heap.size, 1, none⟩ = some (.slice p cs.length cap) := cell_keep bb5 c4_z_1
  have l5_z : w.heap.size < w5.heap.size := by omega
  have m5_z : w.heap.size < w5.heap.size + 1 := by omega
  have BE5 := Lib.hid be5
  have HCH5 := Lib.hid hch5
  clear be5 hch5 bb5 hb5 BE4 HCH4 c4_z_0 c4_z_1 l4_z m4_z
  go_wp2_with fail
  refine (local_calls o p cs cap x _ (HCH5.out.below (by repeat (first | exact Below.refl _ _ | assumption | refine below_drewN ?_ _ | refine Below.setCell ?_ (by first | (simp; done) | (simp; omega)) _ | refine Below.alloc ?_ (by first | (simp; done) | (simp; omega) | omega) _ | refine Below.drew ?_ | refine Below.trans ?_ (Below.mono (by assumption) (by first | (simp; done) | (simp; omega) | omega)))))).mono ?_
  rintro e w6 ⟨rfl, hb6⟩
  rw [HM.out, R3]
  have hz6 := hb6.size
  (try simp at hz6)
  have bb6 : Below w5.heap.size w5 w6 := (by repeat (first | exact Below.refl _ _ | assumption | refine below_drewN ?_ _ | refine Below.setCell ?_ (by first | (simp; done) | (simp; omega)) _ | refine Below.alloc ?_ (by first | (simp; done) | (simp; omega) | omega) _ | refine Below.drew ?_ | refine Below.trans ?_ (Below.mono (by assumption) (by first | (simp; done) | (simp; omega) | omega))))
  have be6 : Below w.heap.size w w6 := BE5.out.trans (bb6.mono BE5.out.size)
  have hch6 := HCH5.out.below bb6
  have c6_z_0 : w6.cell? ⟨w.heap.size, 0, none⟩ = some (.int .i64 o) := cell_keep bb6 c5_z_0
  have c6_z_1 : w6.cell? ⟨w.heap.size, 1, none⟩ = some (.slice p cs.length cap) := cell_keep bb6 c5_z_1
  have l6_z : w.heap.size < w6.heap.size := by omega
  have m6_z : w.heap.size < w6.heap.size + 1 := by omega
  have BE6 := Lib.hid be6
  have HCH6 := Lib.hid hch6
  clear be6 hch6 bb6 hb6 BE5 HCH5 c5_z_0 c5_z_1 l5_z m5_z
  go_wp2_with fail
  go_ret
  exact ⟨by first | rfl | exact ret_bool (decide_eq_true (by omega)), by have q := BE6.out; repeat (first | exact q | refine Below.alloc ?_ (by first | omega | (simp; omega)) _ | refine below_drewN ?_ _ | refine Below.drew ?_)⟩
set_option maxRecDepth 100000 in
set_option maxHeartbeats 1600000 in
theorem days_02 (o : Int) (p : Option Addr) (cs : List (Int × Int)) (cap : Nat) (r s d t x y a am b bm u v f : Int) (w : World) (hcg : Chg w p cs) (h0 : 0 ≤ r) (h1 : r ≤ 4294967295) (h2 : 0 ≤ s) (h3 : s ≤ 4294967295) (hd : r % 73047 = d) (ht : s % 105190560 = t) (hn : cs.length ≤ 100) (hv : Zn.spanS o cs d = (x, y, 0)) (hxy : x ≤ y) (hx0 : 0 ≤ x) (hx1 : x ≤ 105190559) (hl : Zn.localS o cs t = (a, am, 0)) (hm : Zn.localS o cs x = (b, bm, 0)) (hdb : d ≤ b) (hw : Zn.spanS o cs (d + 1) = (u, v, f)) (hf : (f == 0) = false) (hc2 : decide (x ≤ t) = false) (had : a < d) :
    Calls Try.prog 7 #[.agg #[.int .i64 o, .slice p cs.length cap], .int .u32 r, .int .u32 s] w fun e w' => e = .returned (.bool true) ∧ Below w.heap.size w w' := by
  have HCH0 := Lib.hid hcg
  have wd : wrap64 (d + 1) = d + 1 := by unfold wrap64; omega
  have HD := Lib.hid hd
  have HT := Lib.hid ht
  clear hcg hd ht
  have HV := Lib.hid hv
  have HW := Lib.hid hw
  have HL := Lib.hid hl
  have HM := Lib.hid hm
  clear hv hw hl hm
  go_enter Try.func7, Try.ntmps7
  go_wp2_with fail
  refine (head_any _).mono ?_
  rintro e w1 ⟨rfl, hb1⟩
  have hz1 := hb1.size
  (try simp at hz1)
  have bb1 : Below w.heap.size w w1 := (by repeat (first | exact Below.refl _ _ | assumption | refine below_drewN ?_ _ | refine Below.setCell ?_ (by first | (simp; done) | (simp; omega)) _ | refine Below.alloc ?_ (by first | (simp; done) | (simp; omega) | omega) _ | refine Below.drew ?_ | refine Below.trans ?_ (Below.mono (by assumption) (by first | (simp; done) | (simp; omega) | omega))))
  have be1 : Below w.heap.size w w1 := bb1
  have hch1 := HCH0.out.below bb1
  have c1_z_0 : w1.cell? ⟨w.heap.size, 0, none⟩ = some (.int .i64 o) := cell_keep hb1 (by go_simp)
  have c1_z_1 : w1.cell? ⟨w.heap.size, 1, none⟩ = some (.slice p cs.length cap) := cell_keep hb1 (by go_simp)
  have l1_z : w.heap.size < w1.heap.size := by omega
  have m1_z : w.heap.size < w1.heap.size + 1 := by omega
  have BE1 := Lib.hid be1
  have HCH1 := Lib.hid hch1
  clear be1 hch1 bb1 hb1 HCH0
  go_wp2_with fail
  refine (few_yes o p cs cap _ hn).mono ?_
  rintro e w2 ⟨rfl, hb2⟩
  have hz2 := hb2.size
  (try simp at hz2)
  have bb2 : Below w1.heap.size w1 w2 := (by repeat (first | exact Below.refl _ _ | assumption | refine below_drewN ?_ _ | refine Below.setCell ?_ (by first | (simp; done) | (simp; omega)) _ | refine Below.alloc ?_ (by first | (simp; done) | (simp; omega) | omega) _ | refine Below.drew ?_ | refine Below.trans ?_ (Below.mono (by assumption) (by first | (simp; done) | (simp; omega) | omega))))
  have be2 : Below w.heap.size w w2 := BE1.out.trans (bb2.mono BE1.out.size)
  have hch2 := HCH1.out.below bb2
  have c2_z_0 : w2.cell? ⟨w.heap.size, 0, none⟩ = some (.int .i64 o) := cell_keep bb2 c1_z_0
  have c2_z_1 : w2.cell? ⟨w.heap.size, 1, none⟩ = some (.slice p cs.length cap) := cell_keep bb2 c1_z_1
  have l2_z : w.heap.size < w2.heap.size := by omega
  have m2_z : w.heap.size < w2.heap.size + 1 := by omega
  have BE2 := Lib.hid be2
  have HCH2 := Lib.hid hch2
  clear be2 hch2 bb2 hb2 BE1 HCH1 c1_z_0 c1_z_1 l1_z m1_z
  go_wp2_with fail
  simp only [HD.out]
  refine (span_calls o p cs cap d _ (HCH2.out.below (by repeat (first | exact Below.refl _ _ | assumption | refine below_drewN ?_ _ | refine Below.setCell ?_ (by first | (simp; done) | (simp; omega)) _ | refine Below.alloc ?_ (by first | (simp; done) | (simp; omega) | omega) _ | refine Below.drew ?_ | refine Below.trans ?_ (Below.mono (by assumption) (by first | (simp; done) | (simp; omega) | omega)))))).mono ?_
  rintro e w3 ⟨rfl, hb3⟩
  rw [HV.out, R3]
  have hz3 := hb3.size
  (try simp at hz3)
  have bb3 : Below w2.heap.size w2 w3 := (by repeat (first | exact Below.refl _ _ | assumption | refine below_drewN ?_ _ | refine Below.setCell ?_ (by first | (simp; done) | (simp; omega)) _ | refine Below.alloc ?_ (by first | (simp; done) | (simp; omega) | omega) _ | refine Below.drew ?_ | refine Below.trans ?_ (Below.mono (by assumption) (by first | (simp; done) | (simp; omega) | omega))))
  have be3 : Below w.heap.size w w3 := BE2.out.trans (bb3.mono BE2.out.size)
  have hch3 := HCH2.out.below bb3
  have c3_z_0 : w3.cell? ⟨w.heap.size, 0, none⟩ = some (.int .i64 o) := cell_keep bb3 c2_z_0
  have c3_z_1 : w3.cell? ⟨w.heap.size, 1, none⟩ = some (.slice p cs.length cap) := cell_keep bb3 c2_z_1
  have l3_z : w.heap.size < w3.heap.size := by omega
  have m3_z : w.heap.size < w3.heap.size + 1 := by omega
  have BE3 := Lib.hid be3
  have HCH3 := Lib.hid hch3
  clear be3 hch3 bb3 hb3 BE2 HCH2 c2_z_0 c2_z_1 l2_z m2_z
  go_wp2_with fail
  refine (span_calls o p cs cap (d + 1) _ (HCH3.out.below (by repeat (first | exact Below.refl _ _ | assumption | refine below_drewN ?_ _ | refine Below.setCell ?_ (by first | (simp; done) | (simp; omega)) _ | refine Below.alloc ?_ (by first | (simp; done) | (simp; omega) | omega) _ | refine Below.drew ?_ | refine Below.trans ?_ (Below.mono (by assumption) (by first | (simp; done) | (simp; omega) | omega)))))).mono ?_
  rintro e w4 ⟨rfl, hb4⟩
  rw [HW.out, R3]
  have hz4 := hb4.size
  (try simp at hz4)
  have bb4 : Below w3.heap.size w3 w4 := (by repeat (first | exact Below.refl _ _ | assumption | refine below_drewN ?_ _ | refine Below.setCell ?_ (by first | (simp; done) | (simp; omega)) _ | refine Below.alloc ?_ (by first | (simp; done) | (simp; omega) | omega) _ | refine Below.drew ?_ | refine Below.trans ?_ (Below.mono (by assumption) (by first | (simp; done) | (simp; omega) | omega))))
  have be4 : Below w.heap.size w w4 := BE3.out.trans (bb4.mono BE3.out.size)
  have hch4 := HCH3.out.below bb4
  have c4_z_0 : w4.cell? ⟨w.heap.size, 0, none⟩ = some (.int .i64 o) := cell_keep bb4 c3_z_0
  have c4_z_1 : w4.cell? ⟨w.heap.size, 1, none⟩ = some (.slice p cs.length cap) := cell_keep bb4 c3_z_1
  have l4_z : w.heap.size < w4.heap.size := by omega
  have m4_z : w.heap.size < w4.heap.size + 1 := by omega
  have BE4 := Lib.hid be4
  have HCH4 := Lib.hid hch4
  clear be4 hch4 bb4 hb4 BE3 HCH3 c3_z_0 c3_z_1 l3_z m3_z
  go_wp2_with fail
  simp only [HT.out]
  refine (local_calls o p cs cap t _ (HCH4.out.below (by repeat (first | exact Below.refl _ _ | assumption | refine below_drewN ?_ _ | refine Below.setCell ?_ (by first | (simp; done) | (simp; omega)) _ | refine Below.alloc ?_ (by first | (simp; done) | (simp; omega) | omega) _ | refine Below.drew ?_ | refine Below.trans ?_ (Below.mono (by assumption) (by first | (simp; done) | (simp; omega) | omega)))))).mono ?_
  rintro e w5 ⟨rfl, hb5⟩
  rw [HL.out, R3]
  have hz5 := hb5.size
  (try simp at hz5)
  have bb5 : Below w4.heap.size w4 w5 := (by repeat (first | exact Below.refl _ _ | assumption | refine below_drewN ?_ _ | refine Below.setCell ?_ (by first | (simp; done) | (simp; omega)) _ | refine Below.alloc ?_ (by first | (simp; done) | (simp; omega) | omega) _ | refine Below.drew ?_ | refine Below.trans ?_ (Below.mono (by assumption) (by first | (simp; done) | (simp; omega) | omega))))
  have be5 : Below w.heap.size w w5 := BE4.out.trans (bb5.mono BE4.out.size)
  have hch5 := HCH4.out.below bb5
  have c5_z_0 : w5.cell? ⟨w.heap.size, 0, none⟩ = some (.int .i64 o) := cell_keep bb5 c4_z_0
  have c5_z_1 : w5.cell? ⟨w.heap.size, 1, none⟩ = some (.slice p cs.length cap) := cell_keep bb5 c4_z_1
  have l5_z : w.heap.size < w5.heap.size := by omega
  have m5_z : w.heap.size < w5.heap.size + 1 := by omega
  have BE5 := Lib.hid be5
  have HCH5 := Lib.hid hch5
  clear be5 hch5 bb5 hb5 BE4 HCH4 c4_z_0 c4_z_1 l4_z m4_z
  go_wp2_with fail
  refine (local_calls o p cs cap x _ (HCH5.out.below (by repeat (first | exact Below.refl _ _ | assumption | refine below_drewN ?_ _ | refine Below.setCell ?_ (by first | (simp; done) | (simp; omega)) _ | refine Below.alloc ?_ (by first | (simp; done) | (simp; omega) | omega) _ | refine Below.drew ?_ | refine Below.trans ?_ (Below.mono (by assumption) (by first | (simp; done) | (simp; omega) | omega)))))).mono ?_
  rintro e w6 ⟨rfl, hb6⟩
  rw [HM.out, R3]
  have hz6 := hb6.size
  (try simp at hz6)
  have bb6 : Below w5.heap.size w5 w6 := (by repeat (first | exact Below.refl _ _ | assumption | refine below_drewN ?_ _ | refine Below.setCell ?_ (by first | (simp; done) | (simp; omega)) _ | refine Below.alloc ?_ (by first | (simp; done) | (simp; omega) | omega) _ | refine Below.drew ?_ | refine Below.trans ?_ (Below.mono (by assumption) (by first | (simp; done) | (simp; omega) | omega))))
  have be6 : Below w.heap.size w w6 := BE5.out.trans (bb6.mono BE5.out.size)
  have hch6 := HCH5.out.below bb6
  have c6_z_0 : w6.cell? ⟨w.heap.size, 0, none⟩ = some (.int .i64 o) := cell_keep bb6 c5_z_0
  have c6_z_1 : w6.cell? ⟨w.heap.size, 1, none⟩ = some (.slice p cs.length cap) := cell_keep bb6 c5_z_1
  have l6_z : w.heap.size < w6.heap.size := by omega
  have m6_z : w.heap.size < w6.heap.size + 1 := by omega
  have BE6 := Lib.hid be6
  have HCH6 := Lib.hid hch6
  clear be6 hch6 bb6 hb6 BE5 HCH5 c5_z_0 c5_z_1 l5_z m5_z
  go_wp2_with fail
  go_ret
  exact ⟨by first | rfl | exact ret_bool (decide_eq_true (by omega)), by have q := BE6.out; repeat (first | exact q | refine Below.alloc ?_ (by first | omega | (simp; omega)) _ | refine below_drewN ?_ _ | refine Below.drew ?_)⟩
set_option maxRecDepth 100000 in
set_option maxHeartbeats 1600000 in
theorem days_10 (o : Int) (p : Option Addr) (cs : List (Int × Int)) (cap : Nat) (r s d t x y a am g b bm v : Int) (w : World) (hcg : Chg w p cs) (h0 : 0 ≤ r) (h1 : r ≤ 4294967295) (h2 : 0 ≤ s) (h3 : s ≤ 4294967295) (hd : r % 73047 = d) (ht : s % 105190560 = t) (hn : cs.length ≤ 100) (hv : Zn.spanS o cs d = (x, y, 0)) (hxy : x ≤ y) (hx0 : 0 ≤ x) (hx1 : x ≤ 105190559) (hl : Zn.localS o cs t = (a, am, g)) (hm : Zn.localS o cs x = (b, bm, 0)) (hdb : d ≤ b) (hw : Zn.spanS o cs (d + 1) = (y, v, 0)) (hc : x ≤ t) :
    Calls Try.prog 7 #[.agg #[.int .i64 o, .slice p cs.length cap], .int .u32 r, .int .u32 s] w fun e w' => e = .returned (.bool true) ∧ Below w.heap.size w w' := by
  have HCH0 := Lib.hid hcg
  have wd : wrap64 (d + 1) = d + 1 := by unfold wrap64; omega
  have HD := Lib.hid hd
  have HT := Lib.hid ht
  clear hcg hd ht
  have HV := Lib.hid hv
  have HW := Lib.hid hw
  have HL := Lib.hid hl
  have HM := Lib.hid hm
  clear hv hw hl hm
  go_enter Try.func7, Try.ntmps7
  go_wp2_with fail
  refine (head_any _).mono ?_
  rintro e w1 ⟨rfl, hb1⟩
  have hz1 := hb1.size
  (try simp at hz1)
  have bb1 : Below w.heap.size w w1 := (by repeat (first | exact Below.refl _ _ | assumption | refine below_drewN ?_ _ | refine Below.setCell ?_ (by first | (simp; done) | (simp; omega)) _ | refine Below.alloc ?_ (by first | (simp; done) | (simp; omega) | omega) _ | refine Below.drew ?_ | refine Below.trans ?_ (Below.mono (by assumption) (by first | (simp; done) | (simp; omega) | omega))))
  have be1 : Below w.heap.size w w1 := bb1
  have hch1 := HCH0.out.below bb1
  have c1_z_0 : w1.cell? ⟨w.heap.size, 0, none⟩ = some (.int .i64 o) := cell_keep hb1 (by go_simp)
  have c1_z_1 : w1.cell? ⟨w.heap.size, 1, none⟩ = some (.slice p cs.length cap) := cell_keep hb1 (by go_simp)
  have l1_z : w.heap.size < w1.heap.size := by omega
  have m1_z : w.heap.size < w1.heap.size + 1 := by omega
  have BE1 := Lib.hid be1
  have HCH1 := Lib.hid hch1
  clear be1 hch1 bb1 hb1 HCH0
  go_wp2_with fail
  refine (few_yes o p cs cap _ hn).mono ?_
  rintro e w2 ⟨rfl, hb2⟩
  have hz2 := hb2.size
  (try simp at hz2)
  have bb2 : Below w1.heap.size w1 w2 := (by repeat (first | exact Below.refl _ _ | assumption | refine below_drewN ?_ _ | refine Below.setCell ?_ (by first | (simp; done) | (simp; omega)) _ | refine Below.alloc ?_ (by first | (simp; done) | (simp; omega) | omega) _ | refine Below.drew ?_ | refine Below.trans ?_ (Below.mono (by assumption) (by first | (simp; done) | (simp; omega) | omega))))
  have be2 : Below w.heap.size w w2 := BE1.out.trans (bb2.mono BE1.out.size)
  have hch2 := HCH1.out.below bb2
  have c2_z_0 : w2.cell? ⟨w.heap.size, 0, none⟩ = some (.int .i64 o) := cell_keep bb2 c1_z_0
  have c2_z_1 : w2.cell? ⟨w.heap.size, 1, none⟩ = some (.slice p cs.length cap) := cell_keep bb2 c1_z_1
  have l2_z : w.heap.size < w2.heap.size := by omega
  have m2_z : w.heap.size < w2.heap.size + 1 := by omega
  have BE2 := Lib.hid be2
  have HCH2 := Lib.hid hch2
  clear be2 hch2 bb2 hb2 BE1 HCH1 c1_z_0 c1_z_1 l1_z m1_z
  go_wp2_with fail
  simp only [HD.out]
  refine (span_calls o p cs cap d _ (HCH2.out.below (by repeat (first | exact Below.refl _ _ | assumption | refine below_drewN ?_ _ | refine Below.setCell ?_ (by first | (simp; done) | (simp; omega)) _ | refine Below.alloc ?_ (by first | (simp; done) | (simp; omega) | omega) _ | refine Below.drew ?_ | refine Below.trans ?_ (Below.mono (by assumption) (by first | (simp; done) | (simp; omega) | omega)))))).mono ?_
  rintro e w3 ⟨rfl, hb3⟩
  rw [HV.out, R3]
  have hz3 := hb3.size
  (try simp at hz3)
  have bb3 : Below w2.heap.size w2 w3 := (by repeat (first | exact Below.refl _ _ | assumption | refine below_drewN ?_ _ | refine Below.setCell ?_ (by first | (simp; done) | (simp; omega)) _ | refine Below.alloc ?_ (by first | (simp; done) | (simp; omega) | omega) _ | refine Below.drew ?_ | refine Below.trans ?_ (Below.mono (by assumption) (by first | (simp; done) | (simp; omega) | omega))))
  have be3 : Below w.heap.size w w3 := BE2.out.trans (bb3.mono BE2.out.size)
  have hch3 := HCH2.out.below bb3
  have c3_z_0 : w3.cell? ⟨w.heap.size, 0, none⟩ = some (.int .i64 o) := cell_keep bb3 c2_z_0
  have c3_z_1 : w3.cell? ⟨w.heap.size, 1, none⟩ = some (.slice p cs.length cap) := cell_keep bb3 c2_z_1
  have l3_z : w.heap.size < w3.heap.size := by omega
  have m3_z : w.heap.size < w3.heap.size + 1 := by omega
  have BE3 := Lib.hid be3
  have HCH3 := Lib.hid hch3
  clear be3 hch3 bb3 hb3 BE2 HCH2 c2_z_0 c2_z_1 l2_z m2_z
  go_wp2_with fail
  refine (span_calls o p cs cap (d + 1) _ (HCH3.out.below (by repeat (first | exact Below.refl _ _ | assumption | refine below_drewN ?_ _ | refine Below.setCell ?_ (by first | (simp; done) | (simp; omega)) _ | refine Below.alloc ?_ (by first | (simp; done) | (simp; omega) | omega) _ | refine Below.drew ?_ | refine Below.trans ?_ (Below.mono (by assumption) (by first | (simp; done) | (simp; omega) | omega)))))).mono ?_
  rintro e w4 ⟨rfl, hb4⟩
  rw [HW.out, R3]
  have hz4 := hb4.size
  (try simp at hz4)
  have bb4 : Below w3.heap.size w3 w4 := (by repeat (first | exact Below.refl _ _ | assumption | refine below_drewN ?_ _ | refine Below.setCell ?_ (by first | (simp; done) | (simp; omega)) _ | refine Below.alloc ?_ (by first | (simp; done) | (simp; omega) | omega) _ | refine Below.drew ?_ | refine Below.trans ?_ (Below.mono (by assumption) (by first | (simp; done) | (simp; omega) | omega))))
  have be4 : Below w.heap.size w w4 := BE3.out.trans (bb4.mono BE3.out.size)
  have hch4 := HCH3.out.below bb4
  have c4_z_0 : w4.cell? ⟨w.heap.size, 0, none⟩ = some (.int .i64 o) := cell_keep bb4 c3_z_0
  have c4_z_1 : w4.cell? ⟨w.heap.size, 1, none⟩ = some (.slice p cs.length cap) := cell_keep bb4 c3_z_1
  have l4_z : w.heap.size < w4.heap.size := by omega
  have m4_z : w.heap.size < w4.heap.size + 1 := by omega
  have BE4 := Lib.hid be4
  have HCH4 := Lib.hid hch4
  clear be4 hch4 bb4 hb4 BE3 HCH3 c3_z_0 c3_z_1 l3_z m3_z
  go_wp2_with fail
  simp only [HT.out]
  refine (local_calls o p cs cap t _ (HCH4.out.below (by repeat (first | exact Below.refl _ _ | assumption | refine below_drewN ?_ _ | refine Below.setCell ?_ (by first | (simp; done) | (simp; omega)) _ | refine Below.alloc ?_ (by first | (simp; done) | (simp; omega) | omega) _ | refine Below.drew ?_ | refine Below.trans ?_ (Below.mono (by assumption) (by first | (simp; done) | (simp; omega) | omega)))))).mono ?_
  rintro e w5 ⟨rfl, hb5⟩
  rw [HL.out, R3]
  have hz5 := hb5.size
  (try simp at hz5)
  have bb5 : Below w4.heap.size w4 w5 := (by repeat (first | exact Below.refl _ _ | assumption | refine below_drewN ?_ _ | refine Below.setCell ?_ (by first | (simp; done) | (simp; omega)) _ | refine Below.alloc ?_ (by first | (simp; done) | (simp; omega) | omega) _ | refine Below.drew ?_ | refine Below.trans ?_ (Below.mono (by assumption) (by first | (simp; done) | (simp; omega) | omega))))
  have be5 : Below w.heap.size w w5 := BE4.out.trans (bb5.mono BE4.out.size)
  have hch5 := HCH4.out.below bb5
  have c5_z_0 : w5.cell? ⟨w.heap.size, 0, none⟩ = some (.int .i64 o) := cell_keep bb5 c4_z_0
  have c5_z_1 : w5.cell? ⟨w.heap.size, 1, none⟩ = some (.slice p cs.length cap) := cell_keep bb5 c4_z_1
  have l5_z : w.heap.size < w5.heap.size := by omega
  have m5_z : w.heap.size < w5.heap.size + 1 := by omega
  have BE5 := Lib.hid be5
  have HCH5 := Lib.hid hch5
  clear be5 hch5 bb5 hb5 BE4 HCH4 c4_z_0 c4_z_1 l4_z m4_z
  go_wp2_with fail
  refine (local_calls o p cs cap x _ (HCH5.out.below (by repeat (first | exact Below.refl _ _ | assumption | refine below_drewN ?_ _ | refine Below.setCell ?_ (by first | (simp; done) | (simp; omega)) _ | refine Below.alloc ?_ (by first | (simp; done) | (simp; omega) | omega) _ | refine Below.drew ?_ | refine Below.trans ?_ (Below.mono (by assumption) (by first | (simp; done) | (simp; omega) | omega)))))).mono ?_
  rintro e w6 ⟨rfl, hb6⟩
  rw [HM.out, R3]
  have hz6 := hb6.size
  (try simp at hz6)
  have bb6 : Below w5.heap.size w5 w6 := (by repeat (first | exact Below.refl _ _ | assumption | refine below_drewN ?_ _ | refine Below.setCell ?_ (by first | (simp; done) | (simp; omega)) _ | refine Below.alloc ?_ (by first | (simp; done) | (simp; omega) | omega) _ | refine Below.drew ?_ | refine Below.trans ?_ (Below.mono (by assumption) (by first | (simp; done) | (simp; omega) | omega))))
  have be6 : Below w.heap.size w w6 := BE5.out.trans (bb6.mono BE5.out.size)
  have hch6 := HCH5.out.below bb6
  have c6_z_0 : w6.cell? ⟨w.heap.size, 0, none⟩ = some (.int .i64 o) := cell_keep bb6 c5_z_0
  have c6_z_1 : w6.cell? ⟨w.heap.size, 1, none⟩ = some (.slice p cs.length cap) := cell_keep bb6 c5_z_1
  have l6_z : w.heap.size < w6.heap.size := by omega
  have m6_z : w.heap.size < w6.heap.size + 1 := by omega
  have BE6 := Lib.hid be6
  have HCH6 := Lib.hid hch6
  clear be6 hch6 bb6 hb6 BE5 HCH5 c5_z_0 c5_z_1 l5_z m5_z
  go_wp2_with fail
  go_ret
  exact ⟨by first | rfl | exact ret_bool (decide_eq_true (by omega)), by have q := BE6.out; repeat (first | exact q | refine Below.alloc ?_ (by first | omega | (simp; omega)) _ | refine below_drewN ?_ _ | refine Below.drew ?_)⟩
set_option maxRecDepth 100000 in
set_option maxHeartbeats 1600000 in
theorem days_11 (o : Int) (p : Option Addr) (cs : List (Int × Int)) (cap : Nat) (r s d t x y a am g b bm v : Int) (w : World) (hcg : Chg w p cs) (h0 : 0 ≤ r) (h1 : r ≤ 4294967295) (h2 : 0 ≤ s) (h3 : s ≤ 4294967295) (hd : r % 73047 = d) (ht : s % 105190560 = t) (hn : cs.length ≤ 100) (hv : Zn.spanS o cs d = (x, y, 0)) (hxy : x ≤ y) (hx0 : 0 ≤ x) (hx1 : x ≤ 105190559) (hl : Zn.localS o cs t = (a, am, g)) (hm : Zn.localS o cs x = (b, bm, 0)) (hdb : d ≤ b) (hw : Zn.spanS o cs (d + 1) = (y, v, 0)) (hc2 : decide (x ≤ t) = false) (hg0 : (g != 0) = true) :
    Calls Try.prog 7 #[.agg #[.int .i64 o, .slice p cs.length cap], .int .u32 r, .int .u32 s] w fun e w' => e = .returned (.bool true) ∧ Below w.heap.size w w' := by
  have HCH0 := Lib.hid hcg
  have wd : wrap64 (d + 1) = d + 1 := by unfold wrap64; omega
  have HD := Lib.hid hd
  have HT := Lib.hid ht
  clear hcg hd ht
  have HV := Lib.hid hv
  have HW := Lib.hid hw
  have HL := Lib.hid hl
  have HM := Lib.hid hm
  clear hv hw hl hm
  go_enter Try.func7, Try.ntmps7
  go_wp2_with fail
  refine (head_any _).mono ?_
  rintro e w1 ⟨rfl, hb1⟩
  have hz1 := hb1.size
  (try simp at hz1)
  have bb1 : Below w.heap.size w w1 := (by repeat (first | exact Below.refl _ _ | assumption | refine below_drewN ?_ _ | refine Below.setCell ?_ (by first | (simp; done) | (simp; omega)) _ | refine Below.alloc ?_ (by first | (simp; done) | (simp; omega) | omega) _ | refine Below.drew ?_ | refine Below.trans ?_ (Below.mono (by assumption) (by first | (simp; done) | (simp; omega) | omega))))
  have be1 : Below w.heap.size w w1 := bb1
  have hch1 := HCH0.out.below bb1
  have c1_z_0 : w1.cell? ⟨w.heap.size, 0, none⟩ = some (.int .i64 o) := cell_keep hb1 (by go_simp)
  have c1_z_1 : w1.cell? ⟨w.heap.size, 1, none⟩ = some (.slice p cs.length cap) := cell_keep hb1 (by go_simp)
  have l1_z : w.heap.size < w1.heap.size := by omega
  have m1_z : w.heap.size < w1.heap.size + 1 := by omega
  have BE1 := Lib.hid be1
  have HCH1 := Lib.hid hch1
  clear be1 hch1 bb1 hb1 HCH0
  go_wp2_with fail
  refine (few_yes o p cs cap _ hn).mono ?_
  rintro e w2 ⟨rfl, hb2⟩
  have hz2 := hb2.size
  (try simp at hz2)
  have bb2 : Below w1.heap.size w1 w2 := (by repeat (first | exact Below.refl _ _ | assumption | refine below_drewN ?_ _ | refine Below.setCell ?_ (by first | (simp; done) | (simp; omega)) _ | refine Below.alloc ?_ (by first | (simp; done) | (simp; omega) | omega) _ | refine Below.drew ?_ | refine Below.trans ?_ (Below.mono (by assumption) (by first | (simp; done) | (simp; omega) | omega))))
  have be2 : Below w.heap.size w w2 := BE1.out.trans (bb2.mono BE1.out.size)
  have hch2 := HCH1.out.below bb2
  have c2_z_0 : w2.cell? ⟨w.heap.size, 0, none⟩ = some (.int .i64 o) := cell_keep bb2 c1_z_0
  have c2_z_1 : w2.cell? ⟨w.heap.size, 1, none⟩ = some (.slice p cs.length cap) := cell_keep bb2 c1_z_1
  have l2_z : w.heap.size < w2.heap.size := by omega
  have m2_z : w.heap.size < w2.heap.size + 1 := by omega
  have BE2 := Lib.hid be2
  have HCH2 := Lib.hid hch2
  clear be2 hch2 bb2 hb2 BE1 HCH1 c1_z_0 c1_z_1 l1_z m1_z
  go_wp2_with fail
  simp only [HD.out]
  refine (span_calls o p cs cap d _ (HCH2.out.below (by repeat (first | exact Below.refl _ _ | assumption | refine below_drewN ?_ _ | refine Below.setCell ?_ (by first | (simp; done) | (simp; omega)) _ | refine Below.alloc ?_ (by first | (simp; done) | (simp; omega) | omega) _ | refine Below.drew ?_ | refine Below.trans ?_ (Below.mono (by assumption) (by first | (simp; done) | (simp; omega) | omega)))))).mono ?_
  rintro e w3 ⟨rfl, hb3⟩
  rw [HV.out, R3]
  have hz3 := hb3.size
  (try simp at hz3)
  have bb3 : Below w2.heap.size w2 w3 := (by repeat (first | exact Below.refl _ _ | assumption | refine below_drewN ?_ _ | refine Below.setCell ?_ (by first | (simp; done) | (simp; omega)) _ | refine Below.alloc ?_ (by first | (simp; done) | (simp; omega) | omega) _ | refine Below.drew ?_ | refine Below.trans ?_ (Below.mono (by assumption) (by first | (simp; done) | (simp; omega) | omega))))
  have be3 : Below w.heap.size w w3 := BE2.out.trans (bb3.mono BE2.out.size)
  have hch3 := HCH2.out.below bb3
  have c3_z_0 : w3.cell? ⟨w.heap.size, 0, none⟩ = some (.int .i64 o) := cell_keep bb3 c2_z_0
  have c3_z_1 : w3.cell? ⟨w.heap.size, 1, none⟩ = some (.slice p cs.length cap) := cell_keep bb3 c2_z_1
  have l3_z : w.heap.size < w3.heap.size := by omega
  have m3_z : w.heap.size < w3.heap.size + 1 := by omega
  have BE3 := Lib.hid be3
  have HCH3 := Lib.hid hch3
  clear be3 hch3 bb3 hb3 BE2 HCH2 c2_z_0 c2_z_1 l2_z m2_z
  go_wp2_with fail
  refine (span_calls o p cs cap (d + 1) _ (HCH3.out.below (by repeat (first | exact Below.refl _ _ | assumption | refine below_drewN ?_ _ | refine Below.setCell ?_ (by first | (simp; done) | (simp; omega)) _ | refine Below.alloc ?_ (by first | (simp; done) | (simp; omega) | omega) _ | refine Below.drew ?_ | refine Below.trans ?_ (Below.mono (by assumption) (by first | (simp; done) | (simp; omega) | omega)))))).mono ?_
  rintro e w4 ⟨rfl, hb4⟩
  rw [HW.out, R3]
  have hz4 := hb4.size
  (try simp at hz4)
  have bb4 : Below w3.heap.size w3 w4 := (by repeat (first | exact Below.refl _ _ | assumption | refine below_drewN ?_ _ | refine Below.setCell ?_ (by first | (simp; done) | (simp; omega)) _ | refine Below.alloc ?_ (by first | (simp; done) | (simp; omega) | omega) _ | refine Below.drew ?_ | refine Below.trans ?_ (Below.mono (by assumption) (by first | (simp; done) | (simp; omega) | omega))))
  have be4 : Below w.heap.size w w4 := BE3.out.trans (bb4.mono BE3.out.size)
  have hch4 := HCH3.out.below bb4
  have c4_z_0 : w4.cell? ⟨w.heap.size, 0, none⟩ = some (.int .i64 o) := cell_keep bb4 c3_z_0
  have c4_z_1 : w4.cell? ⟨w.heap.size, 1, none⟩ = some (.slice p cs.length cap) := cell_keep bb4 c3_z_1
  have l4_z : w.heap.size < w4.heap.size := by omega
  have m4_z : w.heap.size < w4.heap.size + 1 := by omega
  have BE4 := Lib.hid be4
  have HCH4 := Lib.hid hch4
  clear be4 hch4 bb4 hb4 BE3 HCH3 c3_z_0 c3_z_1 l3_z m3_z
  go_wp2_with fail
  simp only [HT.out]
  refine (local_calls o p cs cap t _ (HCH4.out.below (by repeat (first | exact Below.refl _ _ | assumption | refine below_drewN ?_ _ | refine Below.setCell ?_ (by first | (simp; done) | (simp; omega)) _ | refine Below.alloc ?_ (by first | (simp; done) | (simp; omega) | omega) _ | refine Below.drew ?_ | refine Below.trans ?_ (Below.mono (by assumption) (by first | (simp; done) | (simp; omega) | omega)))))).mono ?_
  rintro e w5 ⟨rfl, hb5⟩
  rw [HL.out, R3]
  have hz5 := hb5.size
  (try simp at hz5)
  have bb5 : Below w4.heap.size w4 w5 := (by repeat (first | exact Below.refl _ _ | assumption | refine below_drewN ?_ _ | refine Below.setCell ?_ (by first | (simp; done) | (simp; omega)) _ | refine Below.alloc ?_ (by first | (simp; done) | (simp; omega) | omega) _ | refine Below.drew ?_ | refine Below.trans ?_ (Below.mono (by assumption) (by first | (simp; done) | (simp; omega) | omega))))
  have be5 : Below w.heap.size w w5 := BE4.out.trans (bb5.mono BE4.out.size)
  have hch5 := HCH4.out.below bb5
  have c5_z_0 : w5.cell? ⟨w.heap.size, 0, none⟩ = some (.int .i64 o) := cell_keep bb5 c4_z_0
  have c5_z_1 : w5.cell? ⟨w.heap.size, 1, none⟩ = some (.slice p cs.length cap) := cell_keep bb5 c4_z_1
  have l5_z : w.heap.size < w5.heap.size := by omega
  have m5_z : w.heap.size < w5.heap.size + 1 := by omega
  have BE5 := Lib.hid be5
  have HCH5 := Lib.hid hch5
  clear be5 hch5 bb5 hb5 BE4 HCH4 c4_z_0 c4_z_1 l4_z m4_z
  go_wp2_with fail
  refine (local_calls o p cs cap x _ (HCH5.out.below (by repeat (first | exact Below.refl _ _ | assumption | refine below_drewN ?_ _ | refine Below.setCell ?_ (by first | (simp; done) | (simp; omega)) _ | refine Below.alloc ?_ (by first | (simp; done) | (simp; omega) | omega) _ | refine Below.drew ?_ | refine Below.trans ?_ (Below.mono (by assumption) (by first | (simp; done) | (simp; omega) | omega)))))).mono ?_
  rintro e w6 ⟨rfl, hb6⟩
  rw [HM.out, R3]
  have hz6 := hb6.size
  (try simp at hz6)
  have bb6 : Below w5.heap.size w5 w6 := (by repeat (first | exact Below.refl _ _ | assumption | refine below_drewN ?_ _ | refine Below.setCell ?_ (by first | (simp; done) | (simp; omega)) _ | refine Below.alloc ?_ (by first | (simp; done) | (simp; omega) | omega) _ | refine Below.drew ?_ | refine Below.trans ?_ (Below.mono (by assumption) (by first | (simp; done) | (simp; omega) | omega))))
  have be6 : Below w.heap.size w w6 := BE5.out.trans (bb6.mono BE5.out.size)
  have hch6 := HCH5.out.below bb6
  have c6_z_0 : w6.cell? ⟨w.heap.size, 0, none⟩ = some (.int .i64 o) := cell_keep bb6 c5_z_0
  have c6_z_1 : w6.cell? ⟨w.heap.size, 1, none⟩ = some (.slice p cs.length cap) := cell_keep bb6 c5_z_1
  have l6_z : w.heap.size < w6.heap.size := by omega
  have m6_z : w.heap.size < w6.heap.size + 1 := by omega
  have BE6 := Lib.hid be6
  have HCH6 := Lib.hid hch6
  clear be6 hch6 bb6 hb6 BE5 HCH5 c5_z_0 c5_z_1 l5_z m5_z
  go_wp2_with fail
  go_ret
  exact ⟨by first | rfl | exact ret_bool (decide_eq_true (by omega)), by have q := BE6.out; repeat (first | exact q | refine Below.alloc ?_ (by first | omega | (simp; omega)) _ | refine below_drewN ?_ _ | refine Below.drew ?_)⟩
set_option maxRecDepth 100000 in
set_option maxHeartbeats 1600000 in
theorem days_12 (o : Int) (p : Option Addr) (cs : List (Int × Int)) (cap : Nat) (r s d t x y a am b bm v : Int) (w : World) (hcg : Chg w p cs) (h0 : 0 ≤ r) (h1 : r ≤ 4294967295) (h2 : 0 ≤ s) (h3 : s ≤ 4294967295) (hd : r % 73047 = d) (ht : s % 105190560 = t) (hn : cs.length ≤ 100) (hv : Zn.spanS o cs d = (x, y, 0)) (hxy : x ≤ y) (hx0 : 0 ≤ x) (hx1 : x ≤ 105190559) (hl : Zn.localS o cs t = (a, am, 0)) (hm : Zn.localS o cs x = (b, bm, 0)) (hdb : d ≤ b) (hw : Zn.spanS o cs (d + 1) = (y, v, 0)) (hc2 : decide (x ≤ t) = false) (had : a < d) :
    Calls Try.prog 7 #[.agg #[.int .i64 o, .slice p cs.length cap], .int .u32 r, .int .u32 s] w fun e w' => e = .returned (.bool true) ∧ Below w.heap.size w w' := by
  have HCH0 := Lib.hid hcg
  have wd : wrap64 (d + 1) = d + 1 := by unfold wrap64; omega
  have HD := Lib.hid hd
  have HT := Lib.hid ht
  clear hcg hd ht
  have HV := Lib.hid hv
  have HW := Lib.hid hw
  have HL := Lib.hid hl
  have HM := Lib.hid hm
  clear hv hw hl hm
  go_enter Try.func7, Try.ntmps7
  go_wp2_with fail
  refine (head_any _).mono ?_
  rintro e w1 ⟨rfl, hb1⟩
  have hz1 := hb1.size
  (try simp at hz1)
  have bb1 : Below w.heap.size w w1 := (by repeat (first | exact Below.refl _ _ | assumption | refine below_drewN ?_ _ | refine Below.setCell ?_ (by first | (simp; done) | (simp; omega)) _ | refine Below.alloc ?_ (by first | (simp; done) | (simp; omega) | omega) _ | refine Below.drew ?_ | refine Below.trans ?_ (Below.mono (by assumption) (by first | (simp; done) | (simp; omega) | omega))))
  have be1 : Below w.heap.size w w1 := bb1
  have hch1 := HCH0.out.below bb1
  have c1_z_0 : w1.cell? ⟨w.heap.size, 0, none⟩ = some (.int .i64 o) := cell_keep hb1 (by go_simp)
  have c1_z_1 : w1.cell? ⟨w.heap.size, 1, none⟩ = some (.slice p cs.length cap) := cell_keep hb1 (by go_simp)
  have l1_z : w.heap.size < w1.heap.size := by omega
  have m1_z : w.heap.size < w1.heap.size + 1 := by omega
  have BE1 := Lib.hid be1
  have HCH1 := Lib.hid hch1
  clear be1 hch1 bb1 hb1 HCH0
  go_wp2_with fail
  refine (few_yes o p cs cap _ hn).mono ?_
  rintro e w2 ⟨rfl, hb2⟩
  have hz2 := hb2.size
  (try simp at hz2)
  have bb2 : Below w1.heap.size w1 w2 := (by repeat (first | exact Below.refl _ _ | assumption | refine below_drewN ?_ _ | refine Below.setCell ?_ (by first | (simp; done) | (simp; omega)) _ | refine Below.alloc ?_ (by first | (simp; done) | (simp; omega) | omega) _ | refine Below.drew ?_ | refine Below.trans ?_ (Below.mono (by assumption) (by first | (simp; done) | (simp; omega) | omega))))
  have be2 : Below w.heap.size w w2 := BE1.out.trans (bb2.mono BE1.out.size)
  have hch2 := HCH1.out.below bb2
  have c2_z_0 : w2.cell? ⟨w.heap.size, 0, none⟩ = some (.int .i64 o) := cell_keep bb2 c1_z_0
  have c2_z_1 : w2.cell? ⟨w.heap.size, 1, none⟩ = some (.slice p cs.length cap) := cell_keep bb2 c1_z_1
  have l2_z : w.heap.size < w2.heap.size := by omega
  have m2_z : w.heap.size < w2.heap.size + 1 := by omega
  have BE2 := Lib.hid be2
  have HCH2 := Lib.hid hch2
  clear be2 hch2 bb2 hb2 BE1 HCH1 c1_z_0 c1_z_1 l1_z m1_z
  go_wp2_with fail
  simp only [HD.out]
  refine (span_calls o p cs cap d _ (HCH2.out.below (by repeat (first | exact Below.refl _ _ | assumption | refine below_drewN ?_ _ | refine Below.setCell ?_ (by first | (simp; done) | (simp; omega)) _ | refine Below.alloc ?_ (by first | (simp; done) | (simp; omega) | omega) _ | refine Below.drew ?_ | refine Below.trans ?_ (Below.mono (by assumption) (by first | (simp; done) | (simp; omega) | omega)))))).mono ?_
  rintro e w3 ⟨rfl, hb3⟩
  rw [HV.out, R3]
  have hz3 := hb3.size
  (try simp at hz3)
  have bb3 : Below w2.heap.size w2 w3 := (by repeat (first | exact Below.refl _ _ | assumption | refine below_drewN ?_ _ | refine Below.setCell ?_ (by first | (simp; done) | (simp; omega)) _ | refine Below.alloc ?_ (by first | (simp; done) | (simp; omega) | omega) _ | refine Below.drew ?_ | refine Below.trans ?_ (Below.mono (by assumption) (by first | (simp; done) | (simp; omega) | omega))))
  have be3 : Below w.heap.size w w3 := BE2.out.trans (bb3.mono BE2.out.size)
  have hch3 := HCH2.out.below bb3
  have c3_z_0 : w3.cell? ⟨w.heap.size, 0, none⟩ = some (.int .i64 o) := cell_keep bb3 c2_z_0
  have c3_z_1 : w3.cell? ⟨w.heap.size, 1, none⟩ = some (.slice p cs.length cap) := cell_keep bb3 c2_z_1
  have l3_z : w.heap.size < w3.heap.size := by omega
  have m3_z : w.heap.size < w3.heap.size + 1 := by omega
  have BE3 := Lib.hid be3
  have HCH3 := Lib.hid hch3
  clear be3 hch3 bb3 hb3 BE2 HCH2 c2_z_0 c2_z_1 l2_z m2_z
  go_wp2_with fail
  refine (span_calls o p cs cap (d + 1) _ (HCH3.out.below (by repeat (first | exact Below.refl _ _ | assumption | refine below_drewN ?_ _ | refine Below.setCell ?_ (by first | (simp; done) | (simp; omega)) _ | refine Below.alloc ?_ (by first | (simp; done) | (simp; omega) | omega) _ | refine Below.drew ?_ | refine Below.trans ?_ (Below.mono (by assumption) (by first | (simp; done) | (simp; omega) | omega)))))).mono ?_
  rintro e w4 ⟨rfl, hb4⟩
  rw [HW.out, R3]
  have hz4 := hb4.size
  (try simp at hz4)
  have bb4 : Below w3.heap.size w3 w4 := (by repeat (first | exact Below.refl _ _ | assumption | refine below_drewN ?_ _ | refine Below.setCell ?_ (by first | (simp; done) | (simp; omega)) _ | refine Below.alloc ?_ (by first | (simp; done) | (simp; omega) | omega) _ | refine Below.drew ?_ | refine Below.trans ?_ (Below.mono (by assumption) (by first | (simp; done) | (simp; omega) | omega))))
  have be4 : Below w.heap.size w w4 := BE3.out.trans (bb4.mono BE3.out.size)
  have hch4 := HCH3.out.below bb4
  have c4_z_0 : w4.cell? ⟨w.heap.size, 0, none⟩ = some (.int .i64 o) := cell_keep bb4 c3_z_0
  have c4_z_1 : w4.cell? ⟨w.heap.size, 1, none⟩ = some (.slice p cs.length cap) := cell_keep bb4 c3_z_1
  have l4_z : w.heap.size < w4.heap.size := by omega
  have m4_z : w.heap.size < w4.heap.size + 1 := by omega
  have BE4 := Lib.hid be4
  have HCH4 := Lib.hid hch4
  clear be4 hch4 bb4 hb4 BE3 HCH3 c3_z_0 c3_z_1 l3_z m3_z
  go_wp2_with fail
  simp only [HT.out]
  refine (local_calls o p cs cap t _ (HCH4.out.below (by repeat (first | exact Below.refl _ _ | assumption | refine below_drewN ?_ _ | refine Below.setCell ?_ (by first | (simp; done) | (simp; omega)) _ | refine Below.alloc ?_ (by first | (simp; done) | (simp; omega) | omega) _ | refine Below.drew ?_ | refine Below.trans ?_ (Below.mono (by assumption) (by first | (simp; done) | (simp; omega) | omega)))))).mono ?_
  rintro e w5 ⟨rfl, hb5⟩
  rw [HL.out, R3]
  have hz5 := hb5.size
  (try simp at hz5)
  have bb5 : Below w4.heap.size w4 w5 := (by repeat (first | exact Below.refl _ _ | assumption | refine below_drewN ?_ _ | refine Below.setCell ?_ (by first | (simp; done) | (simp; omega)) _ | refine Below.alloc ?_ (by first | (simp; done) | (simp; omega) | omega) _ | refine Below.drew ?_ | refine Below.trans ?_ (Below.mono (by assumption) (by first | (simp; done) | (simp; omega) | omega))))
  have be5 : Below w.heap.size w w5 := BE4.out.trans (bb5.mono BE4.out.size)
  have hch5 := HCH4.out.below bb5
  have c5_z_0 : w5.cell? ⟨w.heap.size, 0, none⟩ = some (.int .i64 o) := cell_keep bb5 c4_z_0
  have c5_z_1 : w5.cell? ⟨w.heap.size, 1, none⟩ = some (.slice p cs.length cap) := cell_keep bb5 c4_z_1
  have l5_z : w.heap.size < w5.heap.size := by omega
  have m5_z : w.heap.size < w5.heap.size + 1 := by omega
  have BE5 := Lib.hid be5
  have HCH5 := Lib.hid hch5
  clear be5 hch5 bb5 hb5 BE4 HCH4 c4_z_0 c4_z_1 l4_z m4_z
  go_wp2_with fail
  refine (local_calls o p cs cap x _ (HCH5.out.below (by repeat (first | exact Below.refl _ _ | assumption | refine below_drewN ?_ _ | refine Below.setCell ?_ (by first | (simp; done) | (simp; omega)) _ | refine Below.alloc ?_ (by first | (simp; done) | (simp; omega) | omega) _ | refine Below.drew ?_ | refine Below.trans ?_ (Below.mono (by assumption) (by first | (simp; done) | (simp; omega) | omega)))))).mono ?_
  rintro e w6 ⟨rfl, hb6⟩
  rw [HM.out, R3]
  have hz6 := hb6.size
  (try simp at hz6)
  have bb6 : Below w5.heap.size w5 w6 := (by repeat (first | exact Below.refl _ _ | assumption | refine below_drewN ?_ _ | refine Below.setCell ?_ (by first | (simp; done) | (simp; omega)) _ | refine Below.alloc ?_ (by first | (simp; done) | (simp; omega) | omega) _ | refine Below.drew ?_ | refine Below.trans ?_ (Below.mono (by assumption) (by first | (simp; done) | (simp; omega) | omega))))
  have be6 : Below w.heap.size w w6 := BE5.out.trans (bb6.mono BE5.out.size)
  have hch6 := HCH5.out.below bb6
  have c6_z_0 : w6.cell? ⟨w.heap.size, 0, none⟩ = some (.int .i64 o) := cell_keep bb6 c5_z_0
  have c6_z_1 : w6.cell? ⟨w.heap.size, 1, none⟩ = some (.slice p cs.length cap) := cell_keep bb6 c5_z_1
  have l6_z : w.heap.size < w6.heap.size := by omega
  have m6_z : w.heap.size < w6.heap.size + 1 := by omega
  have BE6 := Lib.hid be6
  have HCH6 := Lib.hid hch6
  clear be6 hch6 bb6 hb6 BE5 HCH5 c5_z_0 c5_z_1 l5_z m5_z
  go_wp2_with fail
  go_ret
  exact ⟨by first | rfl | exact ret_bool (decide_eq_true (by omega)), by have q := BE6.out; repeat (first | exact q | refine Below.alloc ?_ (by first | omega | (simp; omega)) _ | refine below_drewN ?_ _ | refine Below.drew ?_)⟩
theorem days_law (o : Int) (p : Option Addr) (cs : List (Int × Int)) (cap : Nat) (r s : Int) (w : World) (hcg : Chg w p cs) (_ : -9223372036854775808 ≤ o ∧ o ≤ 9223372036854775807) (_ : ∀ c ∈ cs, (-9223372036854775808 ≤ c.1 ∧ c.1 ≤ 9223372036854775807) ∧ (-9223372036854775808 ≤ c.2 ∧ c.2 ≤ 9223372036854775807))
    (h0 : 0 ≤ r) (h1 : r ≤ 4294967295) (h2 : 0 ≤ s) (h3 : s ≤ 4294967295) :
    Calls Try.prog 7 #[.agg #[.int .i64 o, .slice p cs.length cap], .int .u32 r, .int .u32 s] w fun e w' => e = .returned (.bool true) ∧ Below w.heap.size w w' := by
  by_cases hn : 100 < cs.length
  · exact days_many o p cs cap r s w hcg hn
  have hn' : cs.length ≤ 100 := by omega
  rcases hv : Zn.spanS o cs (r % 73047) with ⟨x, y, e⟩
  rcases hw : Zn.spanS o cs (r % 73047 + 1) with ⟨u, v, f⟩
  by_cases he : e = 0
  · subst he
    obtain ⟨q1, q2, q3, ⟨b, bm, hm, hdb⟩, q5⟩ := Zn.days (by omega) hv
    rcases hl : Zn.localS o cs (s % 105190560) with ⟨a, am, g⟩
    by_cases hf : f = 0
    · subst hf
      obtain rfl := Zn.days_next hv hw
      by_cases hc : x ≤ s % 105190560
      · exact days_10 o p cs cap r s _ _ _ _ _ _ _ _ _ _ w hcg h0 h1 h2 h3 rfl rfl hn' hv q1 q2 q3 hl hm hdb hw hc
      · by_cases hg : g = 0
        · subst hg
          exact days_12 o p cs cap r s _ _ _ _ _ _ _ _ _ w hcg h0 h1 h2 h3 rfl rfl hn' hv q1 q2 q3 hl hm hdb hw (decide_eq_false hc) (q5 _ _ _ (by omega) (by omega) hl)
        · exact days_11 o p cs cap r s _ _ _ _ _ _ _ _ _ _ w hcg h0 h1 h2 h3 rfl rfl hn' hv q1 q2 q3 hl hm hdb hw (decide_eq_false hc) (by simpa using hg)
    · have hf' : (f == 0) = false := by simpa using hf
      by_cases hc : x ≤ s % 105190560
      · exact days_00 o p cs cap r s _ _ _ _ _ _ _ _ _ _ _ _ w hcg h0 h1 h2 h3 rfl rfl hn' hv q1 q2 q3 hl hm hdb hw hf' hc
      · by_cases hg : g = 0
        · subst hg
          exact days_02 o p cs cap r s _ _ _ _ _ _ _ _ _ _ _ w hcg h0 h1 h2 h3 rfl rfl hn' hv q1 q2 q3 hl hm hdb hw hf' (decide_eq_false hc) (q5 _ _ _ (by omega) (by omega) hl)
        · exact days_01 o p cs cap r s _ _ _ _ _ _ _ _ _ _ _ _ w hcg h0 h1 h2 h3 rfl rfl hn' hv q1 q2 q3 hl hm hdb hw hf' (decide_eq_false hc) (by simpa using hg)
  · obtain ⟨rfl, rfl⟩ := Zn.span_err hv he
    exact days_err o p cs cap r s _ _ _ _ _ w hcg h0 h1 rfl hn' hv (by simpa using he) hw
end Go.Proofs.Ytcacmigfpahicaa

/- ZoneMoved: the walk of the law. -/
import Derived.Test.YtcacmigfpahicaaRzM
namespace Go.Proofs.Ytcacmigfpahicaa
open Go.RowKit Go.Shelf

theorem moved_calls2 (o : Int) (p : Option Addr) (cs cs2 : List (Int × Int)) (cap : Nat) (n on : Int) (w : World) (h : Zn.Ok o cs) (hn0 : -1680 ≤ n) (hn1 : n ≤ 1680) (hch : Chg w p cs) (h2 : cs2 = cs.map fun c => (c.1, c.2 + n)) (hon : on = o + n) :
    Calls Try.prog 22 #[.agg #[.int .i64 o, .slice p cs.length cap], .int .i64 n] w fun e w' => ∃ q cap2, e = .returned (.agg #[.int .i64 on, .slice q cs2.length cap2]) ∧ Chg w' q cs2 ∧ Below w.heap.size w w' := by
  subst h2 hon
  rw [List.length_map]
  exact moved_calls o p cs cap n w h hn0 hn1 hch
set_option maxRecDepth 100000 in
set_option maxHeartbeats 1600000 in
theorem moved_many (o : Int) (p : Option Addr) (cs : List (Int × Int)) (cap : Nat) (g s : Int) (w : World) (hcg : Chg w p cs) (hg0 : -32768 ≤ g) (hg1 : g ≤ 32767) (hl : 100 < cs.length) :
    Calls Try.prog 8 #[.agg #[.int .i64 o, .slice p cs.length cap], .int .i16 g, .int .u32 s] w fun e w' => e = .returned (.bool true) ∧ Below w.heap.size w w' := by
  have HCH0 := Lib.hid hcg
  clear hcg
  go_enter Try.func8, Try.ntmps8
  go_wp2_with fail
  refine (head_any _).mono ?_
  rintro e w1 ⟨rfl, hb1⟩
  have hz1 := hb1.size
  (try simp at hz1)
  have bb1 : Below w.heap.size w w1 := (by repeat (first | exact Below.refl _ _ | assumption | refine below_drewN ?_ _ | refine Below.setCell ?_ (by first | (simp; done) | (simp; omega)) _ | refine Below.alloc ?_ (by first | (simp; done) | (simp; omega) | omega) _ | refine Below.drew ?_ | refine Below.trans ?_ (Below.mono (by assumption) (by first | (simp; done) | (simp; omega) | omega))))
  have be1 : Below w.heap.size w w1 := bb1
  have hch1 := HCH0.out.below bb1
  have c1_z_0 : w1.cell? ⟨w.heap.size, 0, none⟩ = some (.int .i64 o) := cell_keep hb1 (by go_simp)
  have c1_z_1 : w1.cell? ⟨w.heap.size, 1, none⟩ = some (.slice p cs.length cap) := cell_keep hb1 (by go_simp)
  have l1_z : w.heap.size < w1.heap.size := by omega
  have m1_z : w.heap.size < w1.heap.size + 1 := by omega
  have BE1 := Lib.hid be1
  have HCH1 := Lib.hid hch1
  clear be1 hch1 bb1 hb1 HCH0
  go_wp2_with fail
  refine (few_no o p cs cap _ hl).mono ?_
  rintro e w2 ⟨rfl, hb2⟩
  have hz2 := hb2.size
  (try simp at hz2)
  have bb2 : Below w1.heap.size w1 w2 := (by repeat (first | exact Below.refl _ _ | assumption | refine below_drewN ?_ _ | refine Below.setCell ?_ (by first | (simp; done) | (simp; omega)) _ | refine Below.alloc ?_ (by first | (simp; done) | (simp; omega) | omega) _ | refine Below.drew ?_ | refine Below.trans ?_ (Below.mono (by assumption) (by first | (simp; done) | (simp; omega) | omega))))
  have be2 : Below w.heap.size w w2 := BE1.out.trans (bb2.mono BE1.out.size)
  have hch2 := HCH1.out.below bb2
  have c2_z_0 : w2.cell? ⟨w.heap.size, 0, none⟩ = some (.int .i64 o) := cell_keep bb2 c1_z_0
  have c2_z_1 : w2.cell? ⟨w.heap.size, 1, none⟩ = some (.slice p cs.length cap) := cell_keep bb2 c1_z_1
  have l2_z : w.heap.size < w2.heap.size := by omega
  have m2_z : w.heap.size < w2.heap.size + 1 := by omega
  have BE2 := Lib.hid be2
  have HCH2 := Lib.hid hch2
  clear be2 hch2 bb2 hb2 BE1 HCH1 c1_z_0 c1_z_1 l1_z m1_z
  go_wp2_with fail
  go_ret
  exact ⟨rfl, by have q := BE2.out; repeat (first | exact q | refine Below.alloc ?_ (by first | omega | (simp; omega)) _ | refine below_drewN ?_ _ | refine Below.drew ?_)⟩
set_option maxRecDepth 100000 in
set_option maxHeartbeats 1600000 in
theorem moved_bad (o : Int) (p : Option Addr) (cs : List (Int × Int)) (cap : Nat) (g s : Int) (w : World) (hcg : Chg w p cs) (hg0 : -32768 ≤ g) (hg1 : g ≤ 32767) (hl : cs.length ≤ 100) (hv : decide (Zn.Ok o cs) = false) :
    Calls Try.prog 8 #[.agg #[.int .i64 o, .slice p cs.length cap], .int .i16 g, .int .u32 s] w fun e w' => e = .returned (.bool true) ∧ Below w.heap.size w w' := by
  have HCH0 := Lib.hid hcg
  clear hcg
  have HV := Lib.hid hv
  clear hv
  go_enter Try.func8, Try.ntmps8
  go_wp2_with fail
  refine (head_any _).mono ?_
  rintro e w1 ⟨rfl, hb1⟩
  have hz1 := hb1.size
  (try simp at hz1)
  have bb1 : Below w.heap.size w w1 := (by repeat (first | exact Below.refl _ _ | assumption | refine below_drewN ?_ _ | refine Below.setCell ?_ (by first | (simp; done) | (simp; omega)) _ | refine Below.alloc ?_ (by first | (simp; done) | (simp; omega) | omega) _ | refine Below.drew ?_ | refine Below.trans ?_ (Below.mono (by assumption) (by first | (simp; done) | (simp; omega) | omega))))
  have be1 : Below w.heap.size w w1 := bb1
  have hch1 := HCH0.out.below bb1
  have c1_z_0 : w1.cell? ⟨w.heap.size, 0, none⟩ = some (.int .i64 o) := cell_keep hb1 (by go_simp)
  have c1_z_1 : w1.cell? ⟨w.heap.size, 1, none⟩ = some (.slice p cs.length cap) := cell_keep hb1 (by go_simp)
  have l1_z : w.heap.size < w1.heap.size := by omega
  have m1_z : w.heap.size < w1.heap.size + 1 := by omega
  have BE1 := Lib.hid be1
  have HCH1 := Lib.hid hch1
  clear be1 hch1 bb1 hb1 HCH0
  go_wp2_with fail
  refine (few_yes o p cs cap _ hl).mono ?_
  rintro e w2 ⟨rfl, hb2⟩
  have hz2 := hb2.size
  (try simp at hz2)
  have bb2 : Below w1.heap.size w1 w2 := (by repeat (first | exact Below.refl _ _ | assumption | refine below_drewN ?_ _ | refine Below.setCell ?_ (by first | (simp; done) | (simp; omega)) _ | refine Below.alloc ?_ (by first | (simp; done) | (simp; omega) | omega) _ | refine Below.drew ?_ | refine Below.trans ?_ (Below.mono (by assumption) (by first | (simp; done) | (simp; omega) | omega))))
  have be2 : Below w.heap.size w w2 := BE1.out.trans (bb2.mono BE1.out.size)
  have hch2 := HCH1.out.below bb2
  have c2_z_0 : w2.cell? ⟨w.heap.size, 0, none⟩ = some (.int .i64 o) := cell_keep bb2 c1_z_0
  have c2_z_1 : w2.cell? ⟨w.heap.size, 1, none⟩ = some (.slice p cs.length cap) := cell_keep bb2 c1_z_1
  have l2_z : w.heap.size < w2.heap.size := by omega
  have m2_z : w.heap.size < w2.heap.size + 1 := by omega
  have BE2 := Lib.hid be2
  have HCH2 := Lib.hid hch2
  clear be2 hch2 bb2 hb2 BE1 HCH1 c1_z_0 c1_z_1 l1_z m1_z
  go_wp2_with fail
  refine (rvalid_calls o p cs cap _ (HCH2.out.below (by repeat (first | exact Below.refl _ _ | assumption | refine below_drewN ?_ _ | refine Below.setCell ?_ (by first | (simp; done) | (simp; omega)) _ | refine Below.alloc ?_ (by first | (simp; done) | (simp; omega) | omega) _ | refine Below.drew ?_ | refine Below.trans ?_ (Below.mono (by assumption) (by first | (simp; done) | (simp; omega) | omega)))))).mono ?_
  rintro e w3 ⟨rfl, hb3⟩
  rw [HV.out]
  have hz3 := hb3.size
  (try simp at hz3)
  have bb3 : Below w2.heap.size w2 w3 := (by repeat (first | exact Below.refl _ _ | assumption | refine below_drewN ?_ _ | refine Below.setCell ?_ (by first | (simp; done) | (simp; omega)) _ | refine Below.alloc ?_ (by first | (simp; done) | (simp; omega) | omega) _ | refine Below.drew ?_ | refine Below.trans ?_ (Below.mono (by assumption) (by first | (simp; done) | (simp; omega) | omega))))
  have be3 : Below w.heap.size w w3 := BE2.out.trans (bb3.mono BE2.out.size)
  have hch3 := HCH2.out.below bb3
  have c3_z_0 : w3.cell? ⟨w.heap.size, 0, none⟩ = some (.int .i64 o) := cell_keep bb3 c2_z_0
  have c3_z_1 : w3.cell? ⟨w.heap.size, 1, none⟩ = some (.slice p cs.length cap) := cell_keep bb3 c2_z_1
  have l3_z : w.heap.size < w3.heap.size := by omega
  have m3_z : w.heap.size < w3.heap.size + 1 := by omega
  have BE3 := Lib.hid be3
  have HCH3 := Lib.hid hch3
  clear be3 hch3 bb3 hb3 BE2 HCH2 c2_z_0 c2_z_1 l2_z m2_z
  go_wp2_with fail
  go_ret
  exact ⟨rfl, by have q := BE3.out; repeat (first | exact q | refine Below.alloc ?_ (by first | omega | (simp; omega)) _ | refine below_drewN ?_ _ | refine Below.drew ?_)⟩
set_option maxRecDepth 100000 in
set_option maxHeartbeats 1600000 in
theorem moved_off (o : Int) (p : Option Addr) (cs : List (Int × Int)) (cap : Nat) (g s n t on : Int) (cs2 : List (Int × Int)) (w : World) (hcg : Chg w p cs) (h0 : 0 ≤ s) (h1 : s ≤ 4294967295) (hg0 : -32768 ≤ g) (hg1 : g ≤ 32767) (hn : g.tmod 1681 = n) (ht : s % 105190560 = t) (hl : cs.length ≤ 100) (hv : decide (Zn.Ok o cs) = true) (ho : Zn.Ok o cs) (hb0 : -1680 ≤ n) (hb1 : n ≤ 1680) (hc2 : cs2 = cs.map fun c => (c.1, c.2 + n)) (hon : on = o + n) (hv2 : decide (Zn.Ok on cs2) = false) :
    Calls Try.prog 8 #[.agg #[.int .i64 o, .slice p cs.length cap], .int .i16 g, .int .u32 s] w fun e w' => e = .returned (.bool true) ∧ Below w.heap.size w w' := by
  have HCH0 := Lib.hid hcg
  have HN := Lib.hid hn
  have HT := Lib.hid ht
  clear hcg hn ht
  have HV := Lib.hid hv
  have HO := Lib.hid ho
  have HB0 := Lib.hid hb0
  have HB1 := Lib.hid hb1
  have HC2 := Lib.hid hc2
  have HON := Lib.hid hon
  have HV2 := Lib.hid hv2
  clear hv ho hb0 hb1 hc2 hon hv2
  go_enter Try.func8, Try.ntmps8
  go_wp2_with fail
  refine (head_any _).mono ?_
  rintro e w1 ⟨rfl, hb1⟩
  have hz1 := hb1.size
  (try simp at hz1)
  have bb1 : Below w.heap.size w w1 := (by repeat (first | exact Below.refl _ _ | assumption | refine below_drewN ?_ _ | refine Below.setCell ?_ (by first | (simp; done) | (simp; omega)) _ | refine Below.alloc ?_ (by first | (simp; done) | (simp; omega) | omega) _ | refine Below.drew ?_ | refine Below.trans ?_ (Below.mono (by assumption) (by first | (simp; done) | (simp; omega) | omega))))
  have be1 : Below w.heap.size w w1 := bb1
  have hch1 := HCH0.out.below bb1
  have c1_z_0 : w1.cell? ⟨w.heap.size, 0, none⟩ = some (.int .i64 o) := cell_keep hb1 (by go_simp)
  have c1_z_1 : w1.cell? ⟨w.heap.size, 1, none⟩ = some (.slice p cs.length cap) := cell_keep hb1 (by go_simp)
  have l1_z : w.heap.size < w1.heap.size := by omega
  have m1_z : w.heap.size < w1.heap.size + 1 := by omega
  have BE1 := Lib.hid be1
  have HCH1 := Lib.hid hch1
  clear be1 hch1 bb1 hb1 HCH0
  go_wp2_with fail
  refine (few_yes o p cs cap _ hl).mono ?_
  rintro e w2 ⟨rfl, hb2⟩
  have hz2 := hb2.size
  (try simp at hz2)
  have bb2 : Below w1.heap.size w1 w2 := (by repeat (first | exact Below.refl _ _ | assumption | refine below_drewN ?_ _ | refine Below.setCell ?_ (by first | (simp; done) | (simp; omega)) _ | refine Below.alloc ?_ (by first | (simp; done) | (simp; omega) | omega) _ | refine Below.drew ?_ | refine Below.trans ?_ (Below.mono (by assumption) (by first | (simp; done) | (simp; omega) | omega))))
  have be2 : Below w.heap.size w w2 := BE1.out.trans (bb2.mono BE1.out.size)
  have hch2 := HCH1.out.below bb2
  have c2_z_0 : w2.cell? ⟨w.heap.size, 0, none⟩ = some (.int .i64 o) := cell_keep bb2 c1_z_0
  have c2_z_1 : w2.cell? ⟨w.heap.size, 1, none⟩ = some (.slice p cs.length cap) := cell_keep bb2 c1_z_1
  have l2_z : w.heap.size < w2.heap.size := by omega
  have m2_z : w.heap.size < w2.heap.size + 1 := by omega
  have BE2 := Lib.hid be2
  have HCH2 := Lib.hid hch2
  clear be2 hch2 bb2 hb2 BE1 HCH1 c1_z_0 c1_z_1 l1_z m1_z
  go_wp2_with fail
  refine (rvalid_calls o p cs cap _ (HCH2.out.below (by repeat (first | exact Below.refl _ _ | assumption | refine below_drewN ?_ _ | refine Below.setCell ?_ (by first | (simp; done) | (simp; omega)) _ | refine Below.alloc ?_ (by first | (simp; done) | (simp; omega) | omega) _ | refine Below.drew ?_ | refine Below.trans ?_ (Below.mono (by assumption) (by first | (simp; done) | (simp; omega) | omega)))))).mono ?_
  rintro e w3 ⟨rfl, hb3⟩
  rw [HV.out]
  have hz3 := hb3.size
  (try simp at hz3)
  have bb3 : Below w2.heap.size w2 w3 := (by repeat (first | exact Below.refl _ _ | assumption | refine below_drewN ?_ _ | refine Below.setCell ?_ (by first | (simp; done) | (simp; omega)) _ | refine Below.alloc ?_ (by first | (simp; done) | (simp; omega) | omega) _ | refine Below.drew ?_ | refine Below.trans ?_ (Below.mono (by assumption) (by first | (simp; done) | (simp; omega) | omega))))
  have be3 : Below w.heap.size w w3 := BE2.out.trans (bb3.mono BE2.out.size)
  have hch3 := HCH2.out.below bb3
  have c3_z_0 : w3.cell? ⟨w.heap.size, 0, none⟩ = some (.int .i64 o) := cell_keep bb3 c2_z_0
  have c3_z_1 : w3.cell? ⟨w.heap.size, 1, none⟩ = some (.slice p cs.length cap) := cell_keep bb3 c2_z_1
  have l3_z : w.heap.size < w3.heap.size := by omega
  have m3_z : w.heap.size < w3.heap.size + 1 := by omega
  have BE3 := Lib.hid be3
  have HCH3 := Lib.hid hch3
  clear be3 hch3 bb3 hb3 BE2 HCH2 c2_z_0 c2_z_1 l2_z m2_z
  go_wp2_with fail
  simp only [HN.out]
  refine (moved_calls2 o p cs cs2 cap n on _ HO.out HB0.out HB1.out (HCH3.out.below (by repeat (first | exact Below.refl _ _ | assumption | refine below_drewN ?_ _ | refine Below.setCell ?_ (by first | (simp; done) | (simp; omega)) _ | refine Below.alloc ?_ (by first | (simp; done) | (simp; omega) | omega) _ | refine Below.drew ?_ | refine Below.trans ?_ (Below.mono (by assumption) (by first | (simp; done) | (simp; omega) | omega))))) HC2.out HON.out).mono ?_
  rintro e w4 ⟨q, cap2, rfl, hcm, hb4⟩
  have hz4 := hb4.size
  (try simp at hz4)
  have bb4 : Below w3.heap.size w3 w4 := (by repeat (first | exact Below.refl _ _ | assumption | refine below_drewN ?_ _ | refine Below.setCell ?_ (by first | (simp; done) | (simp; omega)) _ | refine Below.alloc ?_ (by first | (simp; done) | (simp; omega) | omega) _ | refine Below.drew ?_ | refine Below.trans ?_ (Below.mono (by assumption) (by first | (simp; done) | (simp; omega) | omega))))
  have be4 : Below w.heap.size w w4 := BE3.out.trans (bb4.mono BE3.out.size)
  have hch4 := HCH3.out.below bb4
  have c4_z_0 : w4.cell? ⟨w.heap.size, 0, none⟩ = some (.int .i64 o) := cell_keep bb4 c3_z_0
  have c4_z_1 : w4.cell? ⟨w.heap.size, 1, none⟩ = some (.slice p cs.length cap) := cell_keep bb4 c3_z_1
  have l4_z : w.heap.size < w4.heap.size := by omega
  have m4_z : w.heap.size < w4.heap.size + 1 := by omega
  have HM4 := Lib.hid hcm
  clear hcm
  have BE4 := Lib.hid be4
  have HCH4 := Lib.hid hch4
  clear be4 hch4 bb4 hb4 BE3 HCH3 c3_z_0 c3_z_1 l3_z m3_z
  go_wp2_with fail
  refine (rvalid_calls on q cs2 cap2 _ (HM4.out.below (by repeat (first | exact Below.refl _ _ | assumption | refine below_drewN ?_ _ | refine Below.setCell ?_ (by first | (simp; done) | (simp; omega)) _ | refine Below.alloc ?_ (by first | (simp; done) | (simp; omega) | omega) _ | refine Below.drew ?_ | refine Below.trans ?_ (Below.mono (by assumption) (by first | (simp; done) | (simp; omega) | omega)))))).mono ?_
  rintro e w5 ⟨rfl, hb5⟩
  rw [HV2.out]
  have hz5 := hb5.size
  (try simp at hz5)
  have bb5 : Below w4.heap.size w4 w5 := (by repeat (first | exact Below.refl _ _ | assumption | refine below_drewN ?_ _ | refine Below.setCell ?_ (by first | (simp; done) | (simp; omega)) _ | refine Below.alloc ?_ (by first | (simp; done) | (simp; omega) | omega) _ | refine Below.drew ?_ | refine Below.trans ?_ (Below.mono (by assumption) (by first | (simp; done) | (simp; omega) | omega))))
  have be5 : Below w.heap.size w w5 := BE4.out.trans (bb5.mono BE4.out.size)
  have hch5 := HCH4.out.below bb5
  have c5_z_0 : w5.cell? ⟨w.heap.size, 0, none⟩ = some (.int .i64 o) := cell_keep bb5 c4_z_0
  have c5_z_1 : w5.cell? ⟨w.heap.size, 1, none⟩ = some (.slice p cs.length cap) := cell_keep bb5 c4_z_1
  have l5_z : w.heap.size < w5.heap.size := by omega
  have m5_z : w.heap.size < w5.heap.size + 1 := by omega
  have c5_m_0 : w5.cell? ⟨w4.heap.size, 0, none⟩ = some (.int .i64 on) := cell_keep hb5 (by go_simp)
  have c5_m_1 : w5.cell? ⟨w4.heap.size, 1, none⟩ = some (.slice q cs2.length cap2) := cell_keep hb5 (by go_simp)
  have l5_m : w4.heap.size < w5.heap.size := by omega
  have m5_m : w4.heap.size < w5.heap.size + 1 := by omega
  have HM5 := Lib.hid (HM4.out.below bb5)
  have BE5 := Lib.hid be5
  have HCH5 := Lib.hid hch5
  clear be5 hch5 bb5 hb5 BE4 HCH4 c4_z_0 c4_z_1 l4_z m4_z HM4
  go_wp2_with fail
  refine (valid_calls on q cs2 cap2 _ (HM5.out.below (by repeat (first | exact Below.refl _ _ | assumption | refine below_drewN ?_ _ | refine Below.setCell ?_ (by first | (simp; done) | (simp; omega)) _ | refine Below.alloc ?_ (by first | (simp; done) | (simp; omega) | omega) _ | refine Below.drew ?_ | refine Below.trans ?_ (Below.mono (by assumption) (by first | (simp; done) | (simp; omega) | omega)))))).mono ?_
  rintro e w6 ⟨rfl, hb6⟩
  rw [HV2.out]
  have hz6 := hb6.size
  (try simp at hz6)
  have bb6 : Below w5.heap.size w5 w6 := (by repeat (first | exact Below.refl _ _ | assumption | refine below_drewN ?_ _ | refine Below.setCell ?_ (by first | (simp; done) | (simp; omega)) _ | refine Below.alloc ?_ (by first | (simp; done) | (simp; omega) | omega) _ | refine Below.drew ?_ | refine Below.trans ?_ (Below.mono (by assumption) (by first | (simp; done) | (simp; omega) | omega))))
  have be6 : Below w.heap.size w w6 := BE5.out.trans (bb6.mono BE5.out.size)
  have hch6 := HCH5.out.below bb6
  have c6_z_0 : w6.cell? ⟨w.heap.size, 0, none⟩ = some (.int .i64 o) := cell_keep bb6 c5_z_0
  have c6_z_1 : w6.cell? ⟨w.heap.size, 1, none⟩ = some (.slice p cs.length cap) := cell_keep bb6 c5_z_1
  have l6_z : w.heap.size < w6.heap.size := by omega
  have m6_z : w.heap.size < w6.heap.size + 1 := by omega
  have c6_m_0 : w6.cell? ⟨w4.heap.size, 0, none⟩ = some (.int .i64 on) := cell_keep bb6 c5_m_0
  have c6_m_1 : w6.cell? ⟨w4.heap.size, 1, none⟩ = some (.slice q cs2.length cap2) := cell_keep bb6 c5_m_1
  have l6_m : w4.heap.size < w6.heap.size := by omega
  have m6_m : w4.heap.size < w6.heap.size + 1 := by omega
  have HM6 := Lib.hid (HM5.out.below bb6)
  have BE6 := Lib.hid be6
  have HCH6 := Lib.hid hch6
  clear be6 hch6 bb6 hb6 BE5 HCH5 c5_z_0 c5_z_1 l5_z m5_z c5_m_0 c5_m_1 l5_m m5_m HM5
  go_wp2_with fail
  go_ret
  exact ⟨rfl, by have q := BE6.out; repeat (first | exact q | refine Below.alloc ?_ (by first | omega | (simp; omega)) _ | refine below_drewN ?_ _ | refine Below.drew ?_)⟩
set_option maxRecDepth 100000 in
set_option maxHeartbeats 1600000 in
theorem moved_e (o : Int) (p : Option Addr) (cs : List (Int × Int)) (cap : Nat) (g s n t on a b e c d f : Int) (cs2 : List (Int × Int)) (w : World) (hcg : Chg w p cs) (h0 : 0 ≤ s) (h1 : s ≤ 4294967295) (hg0 : -32768 ≤ g) (hg1 : g ≤ 32767) (hn : g.tmod 1681 = n) (ht : s % 105190560 = t) (hl : cs.length ≤ 100) (hv : decide (Zn.Ok o cs) = true) (ho : Zn.Ok o cs) (hb0 : -1680 ≤ n) (hb1 : n ≤ 1680) (hc2 : cs2 = cs.map fun c => (c.1, c.2 + n)) (hon : on = o + n) (hv2 : decide (Zn.Ok on cs2) = true) (ha : Zn.localS o cs t = (a, b, e)) (he : (e != 0) = true) (hb : Zn.localS on cs2 t = (c, d, f)) :
    Calls Try.prog 8 #[.agg #[.int .i64 o, .slice p cs.length cap], .int .i16 g, .int .u32 s] w fun e w' => e = .returned (.bool true) ∧ Below w.heap.size w w' := by
  have HA := Lib.hid ha
  have HB := Lib.hid hb
  clear ha hb
  have HCH0 := Lib.hid hcg
  have HN := Lib.hid hn
  have HT := Lib.hid ht
  clear hcg hn ht
  have HV := Lib.hid hv
  have HO := Lib.hid ho
  have HB0 := Lib.hid hb0
  have HB1 := Lib.hid hb1
  have HC2 := Lib.hid hc2
  have HON := Lib.hid hon
  have HV2 := Lib.hid hv2
  clear hv ho hb0 hb1 hc2 hon hv2
  go_enter Try.func8, Try.ntmps8
  go_wp2_with fail
  refine (head_any _).mono ?_
  rintro e w1 ⟨rfl, hb1⟩
  have hz1 := hb1.size
  (try simp at hz1)
  have bb1 : Below w.heap.size w w1 := (by repeat (first | exact Below.refl _ _ | assumption | refine below_drewN ?_ _ | refine Below.setCell ?_ (by first | (simp; done) | (simp; omega)) _ | refine Below.alloc ?_ (by first | (simp; done) | (simp; omega) | omega) _ | refine Below.drew ?_ | refine Below.trans ?_ (Below.mono (by assumption) (by first | (simp; done) | (simp; omega) | omega))))
  have be1 : Below w.heap.size w w1 := bb1
  have hch1 := HCH0.out.below bb1
  have c1_z_0 : w1.cell? ⟨w.heap.size, 0, none⟩ = some (.int .i64 o) := cell_keep hb1 (by go_simp)
  have c1_z_1 : w1.cell? ⟨w.heap.size, 1, none⟩ = some (.slice p cs.length cap) := cell_keep hb1 (by go_simp)
  have l1_z : w.heap.size < w1.heap.size := by omega
  have m1_z : w.heap.size < w1.heap.size + 1 := by omega
  have BE1 := Lib.hid be1
  have HCH1 := Lib.hid hch1
  clear be1 hch1 bb1 hb1 HCH0
  go_wp2_with fail
  refine (few_yes o p cs cap _ hl).mono ?_
  rintro e w2 ⟨rfl, hb2⟩
  have hz2 := hb2.size
  (try simp at hz2)
  have bb2 : Below w1.heap.size w1 w2 := (by repeat (first | exact Below.refl _ _ | assumption | refine below_drewN ?_ _ | refine Below.setCell ?_ (by first | (simp; done) | (simp; omega)) _ | refine Below.alloc ?_ (by first | (simp; done) | (simp; omega) | omega) _ | refine Below.drew ?_ | refine Below.trans ?_ (Below.mono (by assumption) (by first | (simp; done) | (simp; omega) | omega))))
  have be2 : Below w.heap.size w w2 := BE1.out.trans (bb2.mono BE1.out.size)
  have hch2 := HCH1.out.below bb2
  have c2_z_0 : w2.cell? ⟨w.heap.size, 0, none⟩ = some (.int .i64 o) := cell_keep bb2 c1_z_0
  have c2_z_1 : w2.cell? ⟨w.heap.size, 1, none⟩ = some (.slice p cs.length cap) := cell_keep bb2 c1_z_1
  have l2_z : w.heap.size < w2.heap.size := by omega
  have m2_z : w.heap.size < w2.heap.size + 1 := by omega
  have BE2 := Lib.hid be2
  have HCH2 := Lib.hid hch2
  clear be2 hch2 bb2 hb2 BE1 HCH1 c1_z_0 c1_z_1 l1_z m1_z
  go_wp2_with fail
  refine (rvalid_calls o p cs cap _ (HCH2.out.below (by repeat (first | exact Below.refl _ _ | assumption | refine below_drewN ?_ _ | refine Below.setCell ?_ (by first | (simp; done) | (simp; omega)) _ | refine Below.alloc ?_ (by first | (simp; done) | (simp; omega) | omega) _ | refine Below.drew ?_ | refine Below.trans ?_ (Below.mono (by assumption) (by first | (simp; done) | (simp; omega) | omega)))))).mono ?_
  rintro e w3 ⟨rfl, hb3⟩
  rw [HV.out]
  have hz3 := hb3.size
  (try simp at hz3)
  have bb3 : Below w2.heap.size w2 w3 := (by repeat (first | exact Below.refl _ _ | assumption | refine below_drewN ?_ _ | refine Below.setCell ?_ (by first | (simp; done) | (simp; omega)) _ | refine Below.alloc ?_ (by first | (simp; done) | (simp; omega) | omega) _ | refine Below.drew ?_ | refine Below.trans ?_ (Below.mono (by assumption) (by first | (simp; done) | (simp; omega) | omega))))
  have be3 : Below w.heap.size w w3 := BE2.out.trans (bb3.mono BE2.out.size)
  have hch3 := HCH2.out.below bb3
  have c3_z_0 : w3.cell? ⟨w.heap.size, 0, none⟩ = some (.int .i64 o) := cell_keep bb3 c2_z_0
  have c3_z_1 : w3.cell? ⟨w.heap.size, 1, none⟩ = some (.slice p cs.length cap) := cell_keep bb3 c2_z_1
  have l3_z : w.heap.size < w3.heap.size := by omega
  have m3_z : w.heap.size < w3.heap.size + 1 := by omega
  have BE3 := Lib.hid be3
  have HCH3 := Lib.hid hch3
  clear be3 hch3 bb3 hb3 BE2 HCH2 c2_z_0 c2_z_1 l2_z m2_z
  go_wp2_with fail
  simp only [HN.out]
  refine (moved_calls2 o p cs cs2 cap n on _ HO.out HB0.out HB1.out (HCH3.out.below (by repeat (first | exact Below.refl _ _ | assumption | refine below_drewN ?_ _ | refine Below.setCell ?_ (by first | (simp; done) | (simp; omega)) _ | refine Below.alloc ?_ (by first | (simp; done) | (simp; omega) | omega) _ | refine Below.drew ?_ | refine Below.trans ?_ (Below.mono (by assumption) (by first | (simp; done) | (simp; omega) | omega))))) HC2.out HON.out).mono ?_
  rintro e w4 ⟨q, cap2, rfl, hcm, hb4⟩
  have hz4 := hb4.size
  (try simp at hz4)
  have bb4 : Below w3.heap.size w3 w4 := (by repeat (first | exact Below.refl _ _ | assumption | refine below_drewN ?_ _ | refine Below.setCell ?_ (by first | (simp; done) | (simp; omega)) _ | refine Below.alloc ?_ (by first | (simp; done) | (simp; omega) | omega) _ | refine Below.drew ?_ | refine Below.trans ?_ (Below.mono (by assumption) (by first | (simp; done) | (simp; omega) | omega))))
  have be4 : Below w.heap.size w w4 := BE3.out.trans (bb4.mono BE3.out.size)
  have hch4 := HCH3.out.below bb4
  have c4_z_0 : w4.cell? ⟨w.heap.size, 0, none⟩ = some (.int .i64 o) := cell_keep bb4 c3_z_0
  have c4_z_1 : w4.cell? ⟨w.heap.size, 1, none⟩ = some (.slice p cs.length cap) := cell_keep bb4 c3_z_1
  have l4_z : w.heap.size < w4.heap.size := by omega
  have m4_z : w.heap.size < w4.heap.size + 1 := by omega
  have HM4 := Lib.hid hcm
  clear hcm
  have BE4 := Lib.hid be4
  have HCH4 := Lib.hid hch4
  clear be4 hch4 bb4 hb4 BE3 HCH3 c3_z_0 c3_z_1 l3_z m3_z
  go_wp2_with fail
  refine (rvalid_calls on q cs2 cap2 _ (HM4.out.below (by repeat (first | exact Below.refl _ _ | assumption | refine below_drewN ?_ _ | refine Below.setCell ?_ (by first | (simp; done) | (simp; omega)) _ | refine Below.alloc ?_ (by first | (simp; done) | (simp; omega) | omega) _ | refine Below.drew ?_ | refine Below.trans ?_ (Below.mono (by assumption) (by first | (simp; done) | (simp; omega) | omega)))))).mono ?_
  rintro e w5 ⟨rfl, hb5⟩
  rw [HV2.out]
  have hz5 := hb5.size
  (try simp at hz5)
  have bb5 : Below w4.heap.size w4 w5 := (by repeat (first | exact Below.refl _ _ | assumption | refine below_drewN ?_ _ | refine Below.setCell ?_ (by first | (simp; done) | (simp; omega)) _ | refine Below.alloc ?_ (by first | (simp; done) | (simp; omega) | omega) _ | refine Below.drew ?_ | refine Below.trans ?_ (Below.mono (by assumption) (by first | (simp; done) | (simp; omega) | omega))))
  have be5 : Below w.heap.size w w5 := BE4.out.trans (bb5.mono BE4.out.size)
  have hch5 := HCH4.out.below bb5
  have c5_z_0 : w5.cell? ⟨w.heap.size, 0, none⟩ = some (.int .i64 o) := cell_keep bb5 c4_z_0
  have c5_z_1 : w5.cell? ⟨w.heap.size, 1, none⟩ = some (.slice p cs.length cap) := cell_keep bb5 c4_z_1
  have l5_z : w.heap.size < w5.heap.size := by omega
  have m5_z : w.heap.size < w5.heap.size + 1 := by omega
  have c5_m_0 : w5.cell? ⟨w4.heap.size, 0, none⟩ = some (.int .i64 on) := cell_keep hb5 (by go_simp)
  have c5_m_1 : w5.cell? ⟨w4.heap.size, 1, none⟩ = some (.slice q cs2.length cap2) := cell_keep hb5 (by go_simp)
  have l5_m : w4.heap.size < w5.heap.size := by omega
  have m5_m : w4.heap.size < w5.heap.size + 1 := by omega
  have HM5 := Lib.hid (HM4.out.below bb5)
  have BE5 := Lib.hid be5
  have HCH5 := Lib.hid hch5
  clear be5 hch5 bb5 hb5 BE4 HCH4 c4_z_0 c4_z_1 l4_z m4_z HM4
  go_wp2_with fail
  simp only [HT.out]
  refine (local_calls o p cs cap t _ (HCH5.out.below (by repeat (first | exact Below.refl _ _ | assumption | refine below_drewN ?_ _ | refine Below.setCell ?_ (by first | (simp; done) | (simp; omega)) _ | refine Below.alloc ?_ (by first | (simp; done) | (simp; omega) | omega) _ | refine Below.drew ?_ | refine Below.trans ?_ (Below.mono (by assumption) (by first | (simp; done) | (simp; omega) | omega)))))).mono ?_
  rintro e w6 ⟨rfl, hb6⟩
  rw [HA.out, R3]
  have hz6 := hb6.size
  (try simp at hz6)
  have bb6 : Below w5.heap.size w5 w6 := (by repeat (first | exact Below.refl _ _ | assumption | refine below_drewN ?_ _ | refine Below.setCell ?_ (by first | (simp; done) | (simp; omega)) _ | refine Below.alloc ?_ (by first | (simp; done) | (simp; omega) | omega) _ | refine Below.drew ?_ | refine Below.trans ?_ (Below.mono (by assumption) (by first | (simp; done) | (simp; omega) | omega))))
  have be6 : Below w.heap.size w w6 := BE5.out.trans (bb6.mono BE5.out.size)
  have hch6 := HCH5.out.below bb6
  have c6_z_0 : w6.cell? ⟨w.heap.size, 0, none⟩ = some (.int .i64 o) := cell_keep bb6 c5_z_0
  have c6_z_1 : w6.cell? ⟨w.heap.size, 1, none⟩ = some (.slice p cs.length cap) := cell_keep bb6 c5_z_1
  have l6_z : w.heap.size < w6.heap.size := by omega
  have m6_z : w.heap.size < w6.heap.size + 1 := by omega
  have c6_m_0 : w6.cell? ⟨w4.heap.size, 0, none⟩ = some (.int .i64 on) := cell_keep bb6 c5_m_0
  have c6_m_1 : w6.cell? ⟨w4.heap.size, 1, none⟩ = some (.slice q cs2.length cap2) := cell_keep bb6 c5_m_1
  have l6_m : w4.heap.size < w6.heap.size := by omega
  have m6_m : w4.heap.size < w6.heap.size + 1 := by omega
  have HM6 := Lib.hid (HM5.out.below bb6)
  have BE6 := Lib.hid be6
  have HCH6 := Lib.hid hch6
  clear be6 hch6 bb6 hb6 BE5 HCH5 c5_z_0 c5_z_1 l5_z m5_z c5_m_0 c5_m_1 l5_m m5_m HM5
  go_wp2_with fail
  refine (local_calls on q cs2 cap2 t _ (HM6.out.below (by repeat (first | exact Below.refl _ _ | assumption | refine below_drewN ?_ _ | refine Below.setCell ?_ (by first | (simp; done) | (simp; omega)) _ | refine Below.alloc ?_ (by first | (simp; done) | (simp; omega) | omega) _ | refine Below.drew ?_ | refine Below.trans ?_ (Below.mono (by assumption) (by first | (simp; done) | (simp; omega) | omega)))))).mono ?_
  rintro e w7 ⟨rfl, hb7⟩
  rw [HB.out, R3]
  have hz7 := hb7.size
  (try simp at hz7)
  have bb7 : Below w6.heap.size w6 w7 := (by repeat (first | exact Below.refl _ _ | assumption | refine below_drewN ?_ _ | refine Below.setCell ?_ (by first | (simp; done) | (simp; omega)) _ | refine Below.alloc ?_ (by first | (simp; done) | (simp; omega) | omega) _ | refine Below.drew ?_ | refine Below.trans ?_ (Below.mono (by assumption) (by first | (simp; done) | (simp; omega) | omega))))
  have be7 : Below w.heap.size w w7 := BE6.out.trans (bb7.mono BE6.out.size)
  have hch7 := HCH6.out.below bb7
  have c7_z_0 : w7.cell? ⟨w.heap.size, 0, none⟩ = some (.int .i64 o) := cell_keep bb7 c6_z_0
  have c7_z_1 : w7.cell? ⟨w.heap.size, 1, none⟩ = some (.slice p cs.length cap) := cell_keep bb7 c6_z_1
  have l7_z : w.heap.size < w7.heap.size := by omega
  have m7_z : w.heap.size < w7.heap.size + 1 := by omega
  have c7_m_0 : w7.cell? ⟨w4.heap.size, 0, none⟩ = some (.int .i64 on) := cell_keep bb7 c6_m_0
  have c7_m_1 : w7.cell? ⟨w4.heap.size, 1, none⟩ = some (.slice q cs2.length cap2) := cell_keep bb7 c6_m_1
  have l7_m : w4.heap.size < w7.heap.size := by omega
  have m7_m : w4.heap.size < w7.heap.size + 1 := by omega
  have HM7 := Lib.hid (HM6.out.below bb7)
  have BE7 := Lib.hid be7
  have HCH7 := Lib.hid hch7
  clear be7 hch7 bb7 hb7 BE6 HCH6 c6_z_0 c6_z_1 l6_z m6_z c6_m_0 c6_m_1 l6_m m6_m HM6
  go_wp2_with fail
  go_ret
  exact ⟨rfl, by have q := BE7.out; repeat (first | exact q | refine Below.alloc ?_ (by first | omega | (simp; omega)) _ | refine below_drewN ?_ _ | refine Below.drew ?_)⟩
set_option maxRecDepth 100000 in
set_option maxHeartbeats 1600000 in
theorem moved_f (o : Int) (p : Option Addr) (cs : List (Int × Int)) (cap : Nat) (g s n t on a b c d f : Int) (cs2 : List (Int × Int)) (w : World) (hcg : Chg w p cs) (h0 : 0 ≤ s) (h1 : s ≤ 4294967295) (hg0 : -32768 ≤ g) (hg1 : g ≤ 32767) (hn : g.tmod 1681 = n) (ht : s % 105190560 = t) (hl : cs.length ≤ 100) (hv : decide (Zn.Ok o cs) = true) (ho : Zn.Ok o cs) (hb0 : -1680 ≤ n) (hb1 : n ≤ 1680) (hc2 : cs2 = cs.map fun c => (c.1, c.2 + n)) (hon : on = o + n) (hv2 : decide (Zn.Ok on cs2) = true) (ha : Zn.localS o cs t = (a, b, 0)) (hb : Zn.localS on cs2 t = (c, d, f)) (hf : (f != 0) = true) :
    Calls Try.prog 8 #[.agg #[.int .i64 o, .slice p cs.length cap], .int .i16 g, .int .u32 s] w fun e w' => e = .returned (.bool true) ∧ Below w.heap.size w w' := by
  have HA := Lib.hid ha
  have HB := Lib.hid hb
  clear ha hb
  have HCH0 := Lib.hid hcg
  have HN := Lib.hid hn
  have HT := Lib.hid ht
  clear hcg hn ht
  have HV := Lib.hid hv
  have HO := Lib.hid ho
  have HB0 := Lib.hid hb0
  have HB1 := Lib.hid hb1
  have HC2 := Lib.hid hc2
  have HON := Lib.hid hon
  have HV2 := Lib.hid hv2
  clear hv ho hb0 hb1 hc2 hon hv2
  go_enter Try.func8, Try.ntmps8
  go_wp2_with fail
  refine (head_any _).mono ?_
  rintro e w1 ⟨rfl, hb1⟩
  have hz1 := hb1.size
  (try simp at hz1)
  have bb1 : Below w.heap.size w w1 := (by repeat (first | exact Below.refl _ _ | assumption | refine below_drewN ?_ _ | refine Below.setCell ?_ (by first | (simp; done) | (simp; omega)) _ | refine Below.alloc ?_ (by first | (simp; done) | (simp; omega) | omega) _ | refine Below.drew ?_ | refine Below.trans ?_ (Below.mono (by assumption) (by first | (simp; done) | (simp; omega) | omega))))
  have be1 : Below w.heap.size w w1 := bb1
  have hch1 := HCH0.out.below bb1
  have c1_z_0 : w1.cell? ⟨w.heap.size, 0, none⟩ = some (.int .i64 o) := cell_keep hb1 (by go_simp)
  have c1_z_1 : w1.cell? ⟨w.heap.size, 1, none⟩ = some (.slice p cs.length cap) := cell_keep hb1 (by go_simp)
  have l1_z : w.heap.size < w1.heap.size := by omega
  have m1_z : w.heap.size < w1.heap.size + 1 := by omega
  have BE1 := Lib.hid be1
  have HCH1 := Lib.hid hch1
  clear be1 hch1 bb1 hb1 HCH0
  go_wp2_with fail
  refine (few_yes o p cs cap _ hl).mono ?_
  rintro e w2 ⟨rfl, hb2⟩
  have hz2 := hb2.size
  (try simp at hz2)
  have bb2 : Below w1.heap.size w1 w2 := (by repeat (first | exact Below.refl _ _ | assumption | refine below_drewN ?_ _ | refine Below.setCell ?_ (by first | (simp; done) | (simp; omega)) _ | refine Below.alloc ?_ (by first | (simp; done) | (simp; omega) | omega) _ | refine Below.drew ?_ | refine Below.trans ?_ (Below.mono (by assumption) (by first | (simp; done) | (simp; omega) | omega))))
  have be2 : Below w.heap.size w w2 := BE1.out.trans (bb2.mono BE1.out.size)
  have hch2 := HCH1.out.below bb2
  have c2_z_0 : w2.cell? ⟨w.heap.size, 0, none⟩ = some (.int .i64 o) := cell_keep bb2 c1_z_0
  have c2_z_1 : w2.cell? ⟨w.heap.size, 1, none⟩ = some (.slice p cs.length cap) := cell_keep bb2 c1_z_1
  have l2_z : w.heap.size < w2.heap.size := by omega
  have m2_z : w.heap.size < w2.heap.size + 1 := by omega
  have BE2 := Lib.hid be2
  have HCH2 := Lib.hid hch2
  clear be2 hch2 bb2 hb2 BE1 HCH1 c1_z_0 c1_z_1 l1_z m1_z
  go_wp2_with fail
  refine (rvalid_calls o p cs cap _ (HCH2.out.below (by repeat (first | exact Below.refl _ _ | assumption | refine below_drewN ?_ _ | refine Below.setCell ?_ (by first | (simp; done) | (simp; omega)) _ | refine Below.alloc ?_ (by first | (simp; done) | (simp; omega) | omega) _ | refine Below.drew ?_ | refine Below.trans ?_ (Below.mono (by assumption) (by first | (simp; done) | (simp; omega) | omega)))))).mono ?_
  rintro e w3 ⟨rfl, hb3⟩
  rw [HV.out]
  have hz3 := hb3.size
  (try simp at hz3)
  have bb3 : Below w2.heap.size w2 w3 := (by repeat (first | exact Below.refl _ _ | assumption | refine below_drewN ?_ _ | refine Below.setCell ?_ (by first | (simp; done) | (simp; omega)) _ | refine Below.alloc ?_ (by first | (simp; done) | (simp; omega) | omega) _ | refine Below.drew ?_ | refine Below.trans ?_ (Below.mono (by assumption) (by first | (simp; done) | (simp; omega) | omega))))
  have be3 : Below w.heap.size w w3 := BE2.out.trans (bb3.mono BE2.out.size)
  have hch3 := HCH2.out.below bb3
  have c3_z_0 : w3.cell? ⟨w.heap.size, 0, none⟩ = some (.int .i64 o) := cell_keep bb3 c2_z_0
  have c3_z_1 : w3.cell? ⟨w.heap.size, 1, none⟩ = some (.slice p cs.length cap) := cell_keep bb3 c2_z_1
  have l3_z : w.heap.size < w3.heap.size := by omega
  have m3_z : w.heap.size < w3.heap.size + 1 := by omega
  have BE3 := Lib.hid be3
  have HCH3 := Lib.hid hch3
  clear be3 hch3 bb3 hb3 BE2 HCH2 c2_z_0 c2_z_1 l2_z m2_z
  go_wp2_with fail
  simp only [HN.out]
  refine (moved_calls2 o p cs cs2 cap n on _ HO.out HB0.out HB1.out (HCH3.out.below (by repeat (first | exact Below.refl _ _ | assumption | refine below_drewN ?_ _ | refine Below.setCell ?_ (by first | (simp; done) | (simp; omega)) _ | refine Below.alloc ?_ (by first | (simp; done) | (simp; omega) | omega) _ | refine Below.drew ?_ | refine Below.trans ?_ (Below.mono (by assumption) (by first | (simp; done) | (simp; omega) | omega))))) HC2.out HON.out).mono ?_
  rintro e w4 ⟨q, cap2, rfl, hcm, hb4⟩
  have hz4 := hb4.size
  (try simp at hz4)
  have bb4 : Below w3.heap.size w3 w4 := (by repeat (first | exact Below.refl _ _ | assumption | refine below_drewN ?_ _ | refine Below.setCell ?_ (by first | (simp; done) | (simp; omega)) _ | refine Below.alloc ?_ (by first | (simp; done) | (simp; omega) | omega) _ | refine Below.drew ?_ | refine Below.trans ?_ (Below.mono (by assumption) (by first | (simp; done) | (simp; omega) | omega))))
  have be4 : Below w.heap.size w w4 := BE3.out.trans (bb4.mono BE3.out.size)
  have hch4 := HCH3.out.below bb4
  have c4_z_0 : w4.cell? ⟨w.heap.size, 0, none⟩ = some (.int .i64 o) := cell_keep bb4 c3_z_0
  have c4_z_1 : w4.cell? ⟨w.heap.size, 1, none⟩ = some (.slice p cs.length cap) := cell_keep bb4 c3_z_1
  have l4_z : w.heap.size < w4.heap.size := by omega
  have m4_z : w.heap.size < w4.heap.size + 1 := by omega
  have HM4 := Lib.hid hcm
  clear hcm
  have BE4 := Lib.hid be4
  have HCH4 := Lib.hid hch4
  clear be4 hch4 bb4 hb4 BE3 HCH3 c3_z_0 c3_z_1 l3_z m3_z
  go_wp2_with fail
  refine (rvalid_calls on q cs2 cap2 _ (HM4.out.below (by repeat (first | exact Below.refl _ _ | assumption | refine below_drewN ?_ _ | refine Below.setCell ?_ (by first | (simp; done) | (simp; omega)) _ | refine Below.alloc ?_ (by first | (simp; done) | (simp; omega) | omega) _ | refine Below.drew ?_ | refine Below.trans ?_ (Below.mono (by assumption) (by first | (simp; done) | (simp; omega) | omega)))))).mono ?_
  rintro e w5 ⟨rfl, hb5⟩
  rw [HV2.out]
  have hz5 := hb5.size
  (try simp at hz5)
  have bb5 : Below w4.heap.size w4 w5 := (by repeat (first | exact Below.refl _ _ | assumption | refine below_drewN ?_ _ | refine Below.setCell ?_ (by first | (simp; done) | (simp; omega)) _ | refine Below.alloc ?_ (by first | (simp; done) | (simp; omega) | omega) _ | refine Below.drew ?_ | refine Below.trans ?_ (Below.mono (by assumption) (by first | (simp; done) | (simp; omega) | omega))))
  have be5 : Below w.heap.size w w5 := BE4.out.trans (bb5.mono BE4.out.size)
  have hch5 := HCH4.out.below bb5
  have c5_z_0 : w5.cell? ⟨w.heap.size, 0, none⟩ = some (.int .i64 o) := cell_keep bb5 c4_z_0
  have c5_z_1 : w5.cell? ⟨w.heap.size, 1, none⟩ = some (.slice p cs.length cap) := cell_keep bb5 c4_z_1
  have l5_z : w.heap.size < w5.heap.size := by omega
  have m5_z : w.heap.size < w5.heap.size + 1 := by omega
  have c5_m_0 : w5.cell? ⟨w4.heap.size, 0, none⟩ = some (.int .i64 on) := cell_keep hb5 (by go_simp)
  have c5_m_1 : w5.cell? ⟨w4.heap.size, 1, none⟩ = some (.slice q cs2.length cap2) := cell_keep hb5 (by go_simp)
  have l5_m : w4.heap.size < w5.heap.size := by omega
  have m5_m : w4.heap.size < w5.heap.size + 1 := by omega
  have HM5 := Lib.hid (HM4.out.below bb5)
  have BE5 := Lib.hid be5
  have HCH5 := Lib.hid hch5
  clear be5 hch5 bb5 hb5 BE4 HCH4 c4_z_0 c4_z_1 l4_z m4_z HM4
  go_wp2_with fail
  simp only [HT.out]
  refine (local_calls o p cs cap t _ (HCH5.out.below (by repeat (first | exact Below.refl _ _ | assumption | refine below_drewN ?_ _ | refine Below.setCell ?_ (by first | (simp; done) | (simp; omega)) _ | refine Below.alloc ?_ (by first | (simp; done) | (simp; omega) | omega) _ | refine Below.drew ?_ | refine Below.trans ?_ (Below.mono (by assumption) (by first | (simp; done) | (simp; omega) | omega)))))).mono ?_
  rintro e w6 ⟨rfl, hb6⟩
  rw [HA.out, R3]
  have hz6 := hb6.size
  (try simp at hz6)
  have bb6 : Below w5.heap.size w5 w6 := (by repeat (first | exact Below.refl _ _ | assumption | refine below_drewN ?_ _ | refine Below.setCell ?_ (by first | (simp; done) | (simp; omega)) _ | refine Below.alloc ?_ (by first | (simp; done) | (simp; omega) | omega) _ | refine Below.drew ?_ | refine Below.trans ?_ (Below.mono (by assumption) (by first | (simp; done) | (simp; omega) | omega))))
  have be6 : Below w.heap.size w w6 := BE5.out.trans (bb6.mono BE5.out.size)
  have hch6 := HCH5.out.below bb6
  have c6_z_0 : w6.cell? ⟨w.heap.size, 0, none⟩ = some (.int .i64 o) := cell_keep bb6 c5_z_0
  have c6_z_1 : w6.cell? ⟨w.heap.size, 1, none⟩ = some (.slice p cs.length cap) := cell_keep bb6 c5_z_1
  have l6_z : w.heap.size < w6.heap.size := by omega
  have m6_z : w.heap.size < w6.heap.size + 1 := by omega
  have c6_m_0 : w6.cell? ⟨w4.heap.size, 0, none⟩ = some (.int .i64 on) := cell_keep bb6 c5_m_0
  have c6_m_1 : w6.cell? ⟨w4.heap.size, 1, none⟩ = some (.slice q cs2.length cap2) := cell_keep bb6 c5_m_1
  have l6_m : w4.heap.size < w6.heap.size := by omega
  have m6_m : w4.heap.size < w6.heap.size + 1 := by omega
  have HM6 := Lib.hid (HM5.out.below bb6)
  have BE6 := Lib.hid be6
  have HCH6 := Lib.hid hch6
  clear be6 hch6 bb6 hb6 BE5 HCH5 c5_z_0 c5_z_1 l5_z m5_z c5_m_0 c5_m_1 l5_m m5_m HM5
  go_wp2_with fail
  refine (local_calls on q cs2 cap2 t _ (HM6.out.below (by repeat (first | exact Below.refl _ _ | assumption | refine below_drewN ?_ _ | refine Below.setCell ?_ (by first | (simp; done) | (simp; omega)) _ | refine Below.alloc ?_ (by first | (simp; done) | (simp; omega) | omega) _ | refine Below.drew ?_ | refine Below.trans ?_ (Below.mono (by assumption) (by first | (simp; done) | (simp; omega) | omega)))))).mono ?_
  rintro e w7 ⟨rfl, hb7⟩
  rw [HB.out, R3]
  have hz7 := hb7.size
  (try simp at hz7)
  have bb7 : Below w6.heap.size w6 w7 := (by repeat (first | exact Below.refl _ _ | assumption | refine below_drewN ?_ _ | refine Below.setCell ?_ (by first | (simp; done) | (simp; omega)) _ | refine Below.alloc ?_ (by first | (simp; done) | (simp; omega) | omega) _ | refine Below.drew ?_ | refine Below.trans ?_ (Below.mono (by assumption) (by first | (simp; done) | (simp; omega) | omega))))
  have be7 : Below w.heap.size w w7 := BE6.out.trans (bb7.mono BE6.out.size)
  have hch7 := HCH6.out.below bb7
  have c7_z_0 : w7.cell? ⟨w.heap.size, 0, none⟩ = some (.int .i64 o) := cell_keep bb7 c6_z_0
  have c7_z_1 : w7.cell? ⟨w.heap.size, 1, none⟩ = some (.slice p cs.length cap) := cell_keep bb7 c6_z_1
  have l7_z : w.heap.size < w7.heap.size := by omega
  have m7_z : w.heap.size < w7.heap.size + 1 := by omega
  have c7_m_0 : w7.cell? ⟨w4.heap.size, 0, none⟩ = some (.int .i64 on) := cell_keep bb7 c6_m_0
  have c7_m_1 : w7.cell? ⟨w4.heap.size, 1, none⟩ = some (.slice q cs2.length cap2) := cell_keep bb7 c6_m_1
  have l7_m : w4.heap.size < w7.heap.size := by omega
  have m7_m : w4.heap.size < w7.heap.size + 1 := by omega
  have HM7 := Lib.hid (HM6.out.below bb7)
  have BE7 := Lib.hid be7
  have HCH7 := Lib.hid hch7
  clear be7 hch7 bb7 hb7 BE6 HCH6 c6_z_0 c6_z_1 l6_z m6_z c6_m_0 c6_m_1 l6_m m6_m HM6
  go_wp2_with fail
  go_ret
  exact ⟨rfl, by have q := BE7.out; repeat (first | exact q | refine Below.alloc ?_ (by first | omega | (simp; omega)) _ | refine below_drewN ?_ _ | refine Below.drew ?_)⟩
set_option maxRecDepth 100000 in
set_option maxHeartbeats 1600000 in
theorem moved_in (o : Int) (p : Option Addr) (cs : List (Int × Int)) (cap : Nat) (g s n t on a b c d : Int) (cs2 : List (Int × Int)) (w : World) (hcg : Chg w p cs) (h0 : 0 ≤ s) (h1 : s ≤ 4294967295) (hg0 : -32768 ≤ g) (hg1 : g ≤ 32767) (hn : g.tmod 1681 = n) (ht : s % 105190560 = t) (hl : cs.length ≤ 100) (hv : decide (Zn.Ok o cs) = true) (ho : Zn.Ok o cs) (hb0 : -1680 ≤ n) (hb1 : n ≤ 1680) (hc2 : cs2 = cs.map fun c => (c.1, c.2 + n)) (hon : on = o + n) (hv2 : decide (Zn.Ok on cs2) = true) (ha : Zn.localS o cs t = (a, b, 0)) (hb : Zn.localS on cs2 t = (c, d, 0)) (ha0 : 0 ≤ a) (ha1 : a ≤ 73048) (hb2 : 0 ≤ b) (hb3 : b ≤ 1439) (hc0 : 0 ≤ c) (hc1 : c ≤ 73048) (hd0 : 0 ≤ d) (hd1 : d ≤ 1439) (heq : c * 1440 + d = a * 1440 + b + n) :
    Calls Try.prog 8 #[.agg #[.int .i64 o, .slice p cs.length cap], .int .i16 g, .int .u32 s] w fun e w' => e = .returned (.bool true) ∧ Below w.heap.size w w' := by
  have w1 : wrap64 (c * 1440) = c * 1440 := wrap_in (by omega) (by omega)
  have w2 : wrap64 (c * 1440 + d) = c * 1440 + d := wrap_in (by omega) (by omega)
  have w3 : wrap64 (a * 1440) = a * 1440 := wrap_in (by omega) (by omega)
  have w4 : wrap64 (a * 1440 + b) = a * 1440 + b := wrap_in (by omega) (by omega)
  have w5 : wrap64 (a * 1440 + b + n) = a * 1440 + b + n := wrap_in (by omega) (by omega)
  have HA := Lib.hid ha
  have HB := Lib.hid hb
  clear ha hb
  have HCH0 := Lib.hid hcg
  have HN := Lib.hid hn
  have HT := Lib.hid ht
  clear hcg hn ht
  have HV := Lib.hid hv
  have HO := Lib.hid ho
  have HB0 := Lib.hid hb0
  have HB1 := Lib.hid hb1
  have HC2 := Lib.hid hc2
  have HON := Lib.hid hon
  have HV2 := Lib.hid hv2
  clear hv ho hb0 hb1 hc2 hon hv2
  go_enter Try.func8, Try.ntmps8
  go_wp2_with fail
  refine (head_any _).mono ?_
  rintro e w1 ⟨rfl, hb1⟩
  have hz1 := hb1.size
  (try simp at hz1)
  have bb1 : Below w.heap.size w w1 := (by repeat (first | exact Below.refl _ _ | assumption | refine below_drewN ?_ _ | refine Below.setCell ?_ (by first | (simp; done) | (simp; omega)) _ | refine Below.alloc ?_ (by first | (simp; done) | (simp; omega) | omega) _ | refine Below.drew ?_ | refine Below.trans ?_ (Below.mono (by assumption) (by first | (simp; done) | (simp; omega) | omega))))
  have be1 : Below w.heap.size w w1 := bb1
  have hch1 := HCH0.out.below bb1
  have c1_z_0 : w1.cell? ⟨w.heap.size, 0, none⟩ = some (.int .i64 o) := cell_keep hb1 (by go_simp)
  have c1_z_1 : w1.cell? ⟨w.heap.size, 1, none⟩ = some (.slice p cs.length cap) := cell_keep hb1 (by go_simp)
  have l1_z : w.heap.size < w1.heap.size := by omega
  have m1_z : w.heap.size < w1.heap.size + 1 := by omega
  have BE1 := Lib.hid be1
  have HCH1 := Lib.hid hch1
  clear be1 hch1 bb1 hb1 HCH0
  go_wp2_with fail
  refine (few_yes o p cs cap _ hl).mono ?_
  rintro e w2 ⟨rfl, hb2⟩
  have hz2 := hb2.size
  (try simp at hz2)
  have bb2 : Below w1.heap.size w1 w2 := (by repeat (first | exact Below.refl _ _ | assumption | refine below_drewN ?_ _ | refine Below.setCell ?_ (by first | (simp; done) | (simp; omega)) _ | refine Below.alloc ?_ (by first | (simp; done) | (simp; omega) | omega) _ | refine Below.drew ?_ | refine Below.trans ?_ (Below.mono (by assumption) (by first | (simp; done) | (simp; omega) | omega))))
  have be2 : Below w.heap.size w w2 := BE1.out.trans (bb2.mono BE1.out.size)
  have hch2 := HCH1.out.below bb2
  have c2_z_0 : w2.cell? ⟨w.heap.size, 0, none⟩ = some (.int .i64 o) := cell_keep bb2 c1_z_0
  have c2_z_1 : w2.cell? ⟨w.heap.size, 1, none⟩ = some (.slice p cs.length cap) := cell_keep bb2 c1_z_1
  have l2_z : w.heap.size < w2.heap.size := by omega
  have m2_z : w.heap.size < w2.heap.size + 1 := by omega
  have BE2 := Lib.hid be2
  have HCH2 := Lib.hid hch2
  clear be2 hch2 bb2 hb2 BE1 HCH1 c1_z_0 c1_z_1 l1_z m1_z
  go_wp2_with fail
  refine (rvalid_calls o p cs cap _ (HCH2.out.below (by repeat (first | exact Below.refl _ _ | assumption | refine below_drewN ?_ _ | refine Below.setCell ?_ (by first | (simp; done) | (simp; omega)) _ | refine Below.alloc ?_ (by first | (simp; done) | (simp; omega) | omega) _ | refine Below.drew ?_ | refine Below.trans ?_ (Below.mono (by assumption) (by first | (simp; done) | (simp; omega) | omega)))))).mono ?_
  rintro e w3 ⟨rfl, hb3⟩
  rw [HV.out]
  have hz3 := hb3.size
  (try simp at hz3)
  have bb3 : Below w2.heap.size w2 w3 := (by repeat (first | exact Below.refl _ _ | assumption | refine below_drewN ?_ _ | refine Below.setCell ?_ (by first | (simp; done) | (simp; omega)) _ | refine Below.alloc ?_ (by first | (simp; done) | (simp; omega) | omega) _ | refine Below.drew ?_ | refine Below.trans ?_ (Below.mono (by assumption) (by first | (simp; done) | (simp; omega) | omega))))
  have be3 : Below w.heap.size w w3 := BE2.out.trans (bb3.mono BE2.out.size)
  have hch3 := HCH2.out.below bb3
  have c3_z_0 : w3.cell? ⟨w.heap.size, 0, none⟩ = some (.int .i64 o) := cell_keep bb3 c2_z_0
  have c3_z_1 : w3.cell? ⟨w.heap.size, 1, none⟩ = some (.slice p cs.length cap) := cell_keep bb3 c2_z_1
  have l3_z : w.heap.size < w3.heap.size := by omega
  have m3_z : w.heap.size < w3.heap.size + 1 := by omega
  have BE3 := Lib.hid be3
  have HCH3 := Lib.hid hch3
  clear be3 hch3 bb3 hb3 BE2 HCH2 c2_z_0 c2_z_1 l2_z m2_z
  go_wp2_with fail
  simp only [HN.out]
  refine (moved_calls2 o p cs cs2 cap n on _ HO.out HB0.out HB1.out (HCH3.out.below (by repeat (first | exact Below.refl _ _ | assumption | refine below_drewN ?_ _ | refine Below.setCell ?_ (by first | (simp; done) | (simp; omega)) _ | refine Below.alloc ?_ (by first | (simp; done) | (simp; omega) | omega) _ | refine Below.drew ?_ | refine Below.trans ?_ (Below.mono (by assumption) (by first | (simp; done) | (simp; omega) | omega))))) HC2.out HON.out).mono ?_
  rintro e w4 ⟨q, cap2, rfl, hcm, hb4⟩
  have hz4 := hb4.size
  (try simp at hz4)
  have bb4 : Below w3.heap.size w3 w4 := (by repeat (first | exact Below.refl _ _ | assumption | refine below_drewN ?_ _ | refine Below.setCell ?_ (by first | (simp; done) | (simp; omega)) _ | refine Below.alloc ?_ (by first | (simp; done) | (simp; omega) | omega) _ | refine Below.drew ?_ | refine Below.trans ?_ (Below.mono (by assumption) (by first | (simp; done) | (simp; omega) | omega))))
  have be4 : Below w.heap.size w w4 := BE3.out.trans (bb4.mono BE3.out.size)
  have hch4 := HCH3.out.below bb4
  have c4_z_0 : w4.cell? ⟨w.heap.size, 0, none⟩ = some (.int .i64 o) := cell_keep bb4 c3_z_0
  have c4_z_1 : w4.cell? ⟨w.heap.size, 1, none⟩ = some (.slice p cs.length cap) := cell_keep bb4 c3_z_1
  have l4_z : w.heap.size < w4.heap.size := by omega
  have m4_z : w.heap.size < w4.heap.size + 1 := by omega
  have HM4 := Lib.hid hcm
  clear hcm
  have BE4 := Lib.hid be4
  have HCH4 := Lib.hid hch4
  clear be4 hch4 bb4 hb4 BE3 HCH3 c3_z_0 c3_z_1 l3_z m3_z
  go_wp2_with fail
  refine (rvalid_calls on q cs2 cap2 _ (HM4.out.below (by repeat (first | exact Below.refl _ _ | assumption | refine below_drewN ?_ _ | refine Below.setCell ?_ (by first | (simp; done) | (simp; omega)) _ | refine Below.alloc ?_ (by first | (simp; done) | (simp; omega) | omega) _ | refine Below.drew ?_ | refine Below.trans ?_ (Below.mono (by assumption) (by first | (simp; done) | (simp; omega) | omega)))))).mono ?_
  rintro e w5 ⟨rfl, hb5⟩
  rw [HV2.out]
  have hz5 := hb5.size
  (try simp at hz5)
  have bb5 : Below w4.heap.size w4 w5 := (by repeat (first | exact Below.refl _ _ | assumption | refine below_drewN ?_ _ | refine Below.setCell ?_ (by first | (simp; done) | (simp; omega)) _ | refine Below.alloc ?_ (by first | (simp; done) | (simp; omega) | omega) _ | refine Below.drew ?_ | refine Below.trans ?_ (Below.mono (by assumption) (by first | (simp; done) | (simp; omega) | omega))))
  have be5 : Below w.heap.size w w5 := BE4.out.trans (bb5.mono BE4.out.size)
  have hch5 := HCH4.out.below bb5
  have c5_z_0 : w5.cell? ⟨w.heap.size, 0, none⟩ = some (.int .i64 o) := cell_keep bb5 c4_z_0
  have c5_z_1 : w5.cell? ⟨w.heap.size, 1, none⟩ = some (.slice p cs.length cap) := cell_keep bb5 c4_z_1
  have l5_z : w.heap.size < w5.heap.size := by omega
  have m5_z : w.heap.size < w5.heap.size + 1 := by omega
  have c5_m_0 : w5.cell? ⟨w4.heap.size, 0, none⟩ = some (.int .i64 on) := cell_keep hb5 (by go_simp)
  have c5_m_1 : w5.cell? ⟨w4.heap.size, 1, none⟩ = some (.slice q cs2.length cap2) := cell_keep hb5 (by go_simp)
  have l5_m : w4.heap.size < w5.heap.size := by omega
  have m5_m : w4.heap.size < w5.heap.size + 1 := by omega
  have HM5 := Lib.hid (HM4.out.below bb5)
  have BE5 := Lib.hid be5
  have HCH5 := Lib.hid hch5
  clear be5 hch5 bb5 hb5 BE4 HCH4 c4_z_0 c4_z_1 l4_z m4_z HM4
  go_wp2_with fail
  simp only [HT.out]
  refine (local_calls o p cs cap t _ (HCH5.out.below (by repeat (first | exact Below.refl _ _ | assumption | refine below_drewN ?_ _ | refine Below.setCell ?_ (by first | (simp; done) | (simp; omega)) _ | refine Below.alloc ?_ (by first | (simp; done) | (simp; omega) | omega) _ | refine Below.drew ?_ | refine Below.trans ?_ (Below.mono (by assumption) (by first | (simp; done) | (simp; omega) | omega)))))).mono ?_
  rintro e w6 ⟨rfl, hb6⟩
  rw [HA.out, R3]
  have hz6 := hb6.size
  (try simp at hz6)
  have bb6 : Below w5.heap.size w5 w6 := (by repeat (first | exact Below.refl _ _ | assumption | refine below_drewN ?_ _ | refine Below.setCell ?_ (by first | (simp; done) | (simp; omega)) _ | refine Below.alloc ?_ (by first | (simp; done) | (simp; omega) | omega) _ | refine Below.drew ?_ | refine Below.trans ?_ (Below.mono (by assumption) (by first | (simp; done) | (simp; omega) | omega))))
  have be6 : Below w.heap.size w w6 := BE5.out.trans (bb6.mono BE5.out.size)
  have hch6 := HCH5.out.below bb6
  have c6_z_0 : w6.cell? ⟨w.heap.size, 0, none⟩ = some (.int .i64 o) := cell_keep bb6 c5_z_0
  have c6_z_1 : w6.cell? ⟨w.heap.size, 1, none⟩ = some (.slice p cs.length cap) := cell_keep bb6 c5_z_1
  have l6_z : w.heap.size < w6.heap.size := by omega
  have m6_z : w.heap.size < w6.heap.size + 1 := by omega
  have c6_m_0 : w6.cell? ⟨w4.heap.size, 0, none⟩ = some (.int .i64 on) := cell_keep bb6 c5_m_0
  have c6_m_1 : w6.cell? ⟨w4.heap.size, 1, none⟩ = some (.slice q cs2.length cap2) := cell_keep bb6 c5_m_1
  have l6_m : w4.heap.size < w6.heap.size := by omega
  have m6_m : w4.heap.size < w6.heap.size + 1 := by omega
  have HM6 := Lib.hid (HM5.out.below bb6)
  have BE6 := Lib.hid be6
  have HCH6 := Lib.hid hch6
  clear be6 hch6 bb6 hb6 BE5 HCH5 c5_z_0 c5_z_1 l5_z m5_z c5_m_0 c5_m_1 l5_m m5_m HM5
  go_wp2_with fail
  refine (local_calls on q cs2 cap2 t _ (HM6.out.below (by repeat (first | exact Below.refl _ _ | assumption | refine below_drewN ?_ _ | refine Below.setCell ?_ (by first | (simp; done) | (simp; omega)) _ | refine Below.alloc ?_ (by first | (simp; done) | (simp; omega) | omega) _ | refine Below.drew ?_ | refine Below.trans ?_ (Below.mono (by assumption) (by first | (simp; done) | (simp; omega) | omega)))))).mono ?_
  rintro e w7 ⟨rfl, hb7⟩
  rw [HB.out, R3]
  have hz7 := hb7.size
  (try simp at hz7)
  have bb7 : Below w6.heap.size w6 w7 := (by repeat (first | exact Below.refl _ _ | assumption | refine below_drewN ?_ _ | refine Below.setCell ?_ (by first | (simp; done) | (simp; omega)) _ | refine Below.alloc ?_ (by first | (simp; done) | (simp; omega) | omega) _ | refine Below.drew ?_ | refine Below.trans ?_ (Below.mono (by assumption) (by first | (simp; done) | (simp; omega) | omega))))
  have be7 : Below w.heap.size w w7 := BE6.out.trans (bb7.mono BE6.out.size)
  have hch7 := HCH6.out.below bb7
  have c7_z_0 : w7.cell? ⟨w.heap.size, 0, none⟩ = some (.int .i64 o) := cell_keep bb7 c6_z_0
  have c7_z_1 : w7.cell? ⟨w.heap.size, 1, none⟩ = some (.slice p cs.length cap) := cell_keep bb7 c6_z_1
  have l7_z : w.heap.size < w7.heap.size := by omega
  have m7_z : w.heap.size < w7.heap.size + 1 := by omega
  have c7_m_0 : w7.cell? ⟨w4.heap.size, 0, none⟩ = some (.int .i64 on) := cell_keep bb7 c6_m_0
  have c7_m_1 : w7.cell? ⟨w4.heap.size, 1, none⟩ = some (.slice q cs2.length cap2) := cell_keep bb7 c6_m_1
  have l7_m : w4.heap.size < w7.heap.size := by omega
  have m7_m : w4.heap.size < w7.heap.size + 1 := by omega
  have HM7 := Lib.hid (HM6.out.below bb7)
  have BE7 := Lib.hid be7
  have HCH7 := Lib.hid hch7
  clear be7 hch7 bb7 hb7 BE6 HCH6 c6_z_0 c6_z_1 l6_z m6_z c6_m_0 c6_m_1 l6_m m6_m HM6
  go_wp2_with fail
  go_ret
  exact ⟨rfl, by have q := BE7.out; repeat (first | exact q | refine Below.alloc ?_ (by first | omega | (simp; omega)) _ | refine below_drewN ?_ _ | refine Below.drew ?_)⟩
theorem moved_law (o : Int) (p : Option Addr) (cs : List (Int × Int)) (cap : Nat) (g s : Int) (w : World) (hcg : Chg w p cs) (_ : -9223372036854775808 ≤ o ∧ o ≤ 9223372036854775807) (_ : ∀ c ∈ cs, (-9223372036854775808 ≤ c.1 ∧ c.1 ≤ 9223372036854775807) ∧ (-9223372036854775808 ≤ c.2 ∧ c.2 ≤ 9223372036854775807))
    (hg0 : -32768 ≤ g) (hg1 : g ≤ 32767) (h0 : 0 ≤ s) (h1 : s ≤ 4294967295) :
    Calls Try.prog 8 #[.agg #[.int .i64 o, .slice p cs.length cap], .int .i16 g, .int .u32 s] w fun e w' => e = .returned (.bool true) ∧ Below w.heap.size w w' := by
  by_cases hl : 100 < cs.length
  · exact moved_many o p cs cap g s w hcg hg0 hg1 hl
  have hl' : cs.length ≤ 100 := by omega
  by_cases ho : Zn.Ok o cs
  · have hb : -1680 ≤ g.tmod 1681 ∧ g.tmod 1681 ≤ 1680 := by
      have := Int.tmod_lt_of_pos g (show (0 : Int) < 1681 by omega)
      have h2 := Int.lt_tmod_of_pos g (show (0 : Int) < 1681 by omega)
      omega
    by_cases ho2 : Zn.Ok (o + g.tmod 1681) (cs.map fun c => (c.1, c.2 + g.tmod 1681))
    · rcases ha : Zn.localS o cs (s % 105190560) with ⟨a, b, e⟩
      rcases hbb : Zn.localS (o + g.tmod 1681) (cs.map fun c => (c.1, c.2 + g.tmod 1681)) (s % 105190560) with ⟨c, d, f⟩
      by_cases he : e = 0
      · subst he
        by_cases hf : f = 0
        · subst hf
          obtain ⟨_, _, _, _, q1, q2, q3, q4⟩ := Zn.local_back ha
          obtain ⟨_, _, _, _, r1, r2, r3, r4⟩ := Zn.local_back hbb
          exact moved_in o p cs cap g s _ _ _ _ _ _ _ _ w hcg h0 h1 hg0 hg1 rfl rfl hl' (decide_eq_true ho) ho hb.1 hb.2 rfl rfl (decide_eq_true ho2) ha hbb q3 q4 q1 q2 r3 r4 r1 r2 (Zn.moved ha hbb)
        · exact moved_f o p cs cap g s _ _ _ _ _ _ _ _ _ w hcg h0 h1 hg0 hg1 rfl rfl hl' (decide_eq_true ho) ho hb.1 hb.2 rfl rfl (decide_eq_true ho2) ha hbb (by simpa using hf)
      · exact moved_e o p cs cap g s _ _ _ _ _ _ _ _ _ _ w hcg h0 h1 hg0 hg1 rfl rfl hl' (decide_eq_true ho) ho hb.1 hb.2 rfl rfl (decide_eq_true ho2) ha (by simpa using he) hbb
    · exact moved_off o p cs cap g s _ _ _ _ w hcg h0 h1 hg0 hg1 rfl rfl hl' (decide_eq_true ho) ho hb.1 hb.2 rfl rfl (decide_eq_false ho2)
  · exact moved_bad o p cs cap g s w hcg hg0 hg1 hl' (decide_eq_false ho)
end Go.Proofs.Ytcacmigfpahicaa

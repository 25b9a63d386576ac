/- ZoneMatchesReference: the walk of the law. -/
import Derived.Test.YtcacmigfpahicaaRzE
namespace Go.Proofs.Ytcacmigfpahicaa
open Go.RowKit Go.Shelf

theorem instS_len (o : Int) (cs : List (Int × Int)) (d m : Int) : (Zn.instS o cs d m).length ≤ 1000 := by
  unfold Zn.instS
  split
  · next h => exact Nat.le_trans (Zn.inst_two cs 0 o _ h.1.1 h.1.2.1 h.1.2.2.2) (by omega)
  · exact Nat.zero_le _
set_option maxRecDepth 100000 in
set_option maxHeartbeats 1600000 in
theorem matches_many (o : Int) (p : Option Addr) (cs : List (Int × Int)) (cap : Nat) (t d m : Int) (later : Bool) (w : World) (hcg : Chg w p cs) (hl : 100 < cs.length) :
    Calls Try.prog 3 #[.agg #[.int .i64 o, .slice p cs.length cap], .int .i64 t, .int .i64 d, .int .i64 m, .bool later] w fun e w' => e = .returned (.bool true) ∧ Below w.heap.size w w' := by
  have HCH0 := Lib.hid hcg
  clear hcg
  go_enter Try.func3, Try.ntmps3
  go_wp2_with fail
  refine (head_any _).mono ?_
  rintro e w1 ⟨rfl, hb1⟩
  have hz1 := hb1.size
  (try simp at hz1)
  have bb1 : Below w.heap.size w w1 := (by repeat (first | exact Below.refl _ _ | assumption | refine below_drewN ?_ _ | refine Below.setCell ?_ (by first | (simp; done) | (simp; omega)) _ | refine Below.alloc ?_ (by first | (simp; done) | (simp; omega) | omega) _ | refine Below.drew ?_ | refine Below.trans ?_ (Below.mono (by assumption) (by first | (simp; done) | (simp; omega) | omega))))
  have be1 : Below w.heap.size w w1 := bb1
  have hch1 := HCH0.out.below bb1
  have c1_z_0 : w1.cell? ⟨w.heap.size, 0, none⟩ = some (.int .i64 o) := cell_keep hb1 (by go_simp)
  have c1_z_1 : w1.cell? ⟨w.heap.size, 1, none⟩ = some (.slice p cs.length cap) := cell_keep hb1 (by go_simp)
  have l1_z : w.heap.size < w1.heap.size := by omega
  have m1_z : w.heap.size < w1.heap.size + 1 := by omega
  have BE1 := Lib.hid be1
  have HCH1 := Lib.hid hch1
  clear be1 hch1 bb1 hb1 HCH0
  go_wp2_with fail
  refine (few_no o p cs cap _ hl).mono ?_
  rintro e w2 ⟨rfl, hb2⟩
  have hz2 := hb2.size
  (try simp at hz2)
  have bb2 : Below w1.heap.size w1 w2 := (by repeat (first | exact Below.refl _ _ | assumption | refine below_drewN ?_ _ | refine Below.setCell ?_ (by first | (simp; done) | (simp; omega)) _ | refine Below.alloc ?_ (by first | (simp; done) | (simp; omega) | omega) _ | refine Below.drew ?_ | refine Below.trans ?_ (Below.mono (by assumption) (by first | (simp; done) | (simp; omega) | omega))))
  have be2 : Below w.heap.size w w2 := BE1.out.trans (bb2.mono BE1.out.size)
  have hch2 := HCH1.out.below bb2
  have c2_z_0 : w2.cell? ⟨w.heap.size, 0, none⟩ = some (.int .i64 o) := cell_keep bb2 c1_z_0
  have c2_z_1 : w2.cell? ⟨w.heap.size, 1, none⟩ = some (.slice p cs.length cap) := cell_keep bb2 c1_z_1
  have l2_z : w.heap.size < w2.heap.size := by omega
  have m2_z : w.heap.size < w2.heap.size + 1 := by omega
  have BE2 := Lib.hid be2
  have HCH2 := Lib.hid hch2
  clear be2 hch2 bb2 hb2 BE1 HCH1 c1_z_0 c1_z_1 l1_z m1_z
  go_wp2_with fail
  go_ret
  exact ⟨rfl, by have q := BE2.out; repeat (first | exact q | refine Below.alloc ?_ (by first | omega | (simp; omega)) _ | refine below_drewN ?_ _ | refine Below.drew ?_)⟩
set_option maxRecDepth 100000 in
set_option maxHeartbeats 1600000 in
theorem matches_few (o : Int) (p : Option Addr) (cs : List (Int × Int)) (cap : Nat) (t d m a b e i f q r g : Int) (later v : Bool) (w : World) (hcg : Chg w p cs) (hl : cs.length ≤ 100) (ha : Zn.localS o cs t = (a, b, e)) (hb : Zn.instantS o cs d m later = (i, f)) (hc : Zn.spanS o cs d = (q, r, g)) (hd : decide (Zn.Ok o cs) = v) :
    Calls Try.prog 3 #[.agg #[.int .i64 o, .slice p cs.length cap], .int .i64 t, .int .i64 d, .int .i64 m, .bool later] w fun e w' => e = .returned (.bool true) ∧ Below w.heap.size w w' := by
  have HCH0 := Lib.hid hcg
  clear hcg
  have HA := Lib.hid ha
  have HB := Lib.hid hb
  have HC := Lib.hid hc
  have HD := Lib.hid hd
  clear ha hb hc hd
  go_enter Try.func3, Try.ntmps3
  go_wp2_with fail
  refine (head_any _).mono ?_
  rintro e w1 ⟨rfl, hb1⟩
  have hz1 := hb1.size
  (try simp at hz1)
  have bb1 : Below w.heap.size w w1 := (by repeat (first | exact Below.refl _ _ | assumption | refine below_drewN ?_ _ | refine Below.setCell ?_ (by first | (simp; done) | (simp; omega)) _ | refine Below.alloc ?_ (by first | (simp; done) | (simp; omega) | omega) _ | refine Below.drew ?_ | refine Below.trans ?_ (Below.mono (by assumption) (by first | (simp; done) | (simp; omega) | omega))))
  have be1 : Below w.heap.size w w1 := bb1
  have hch1 := HCH0.out.below bb1
  have c1_z_0 : w1.cell? ⟨w.heap.size, 0, none⟩ = some (.int .i64 o) := cell_keep hb1 (by go_simp)
  have c1_z_1 : w1.cell? ⟨w.heap.size, 1, none⟩ = some (.slice p cs.length cap) := cell_keep hb1 (by go_simp)
  have l1_z : w.heap.size < w1.heap.size := by omega
  have m1_z : w.heap.size < w1.heap.size + 1 := by omega
  have BE1 := Lib.hid be1
  have HCH1 := Lib.hid hch1
  clear be1 hch1 bb1 hb1 HCH0
  go_wp2_with fail
  refine (few_yes o p cs cap _ hl).mono ?_
  rintro e w2 ⟨rfl, hb2⟩
  have hz2 := hb2.size
  (try simp at hz2)
  have bb2 : Below w1.heap.size w1 w2 := (by repeat (first | exact Below.refl _ _ | assumption | refine below_drewN ?_ _ | refine Below.setCell ?_ (by first | (simp; done) | (simp; omega)) _ | refine Below.alloc ?_ (by first | (simp; done) | (simp; omega) | omega) _ | refine Below.drew ?_ | refine Below.trans ?_ (Below.mono (by assumption) (by first | (simp; done) | (simp; omega) | omega))))
  have be2 : Below w.heap.size w w2 := BE1.out.trans (bb2.mono BE1.out.size)
  have hch2 := HCH1.out.below bb2
  have c2_z_0 : w2.cell? ⟨w.heap.size, 0, none⟩ = some (.int .i64 o) := cell_keep bb2 c1_z_0
  have c2_z_1 : w2.cell? ⟨w.heap.size, 1, none⟩ = some (.slice p cs.length cap) := cell_keep bb2 c1_z_1
  have l2_z : w.heap.size < w2.heap.size := by omega
  have m2_z : w.heap.size < w2.heap.size + 1 := by omega
  have BE2 := Lib.hid be2
  have HCH2 := Lib.hid hch2
  clear be2 hch2 bb2 hb2 BE1 HCH1 c1_z_0 c1_z_1 l1_z m1_z
  go_wp2_with fail
  refine (local_calls o p cs cap t _ (HCH2.out.below (by repeat (first | exact Below.refl _ _ | assumption | refine below_drewN ?_ _ | refine Below.setCell ?_ (by first | (simp; done) | (simp; omega)) _ | refine Below.alloc ?_ (by first | (simp; done) | (simp; omega) | omega) _ | refine Below.drew ?_ | refine Below.trans ?_ (Below.mono (by assumption) (by first | (simp; done) | (simp; omega) | omega)))))).mono ?_
  rintro e w3 ⟨rfl, hb3⟩
  rw [HA.out, R3]
  have hz3 := hb3.size
  (try simp at hz3)
  have bb3 : Below w2.heap.size w2 w3 := (by repeat (first | exact Below.refl _ _ | assumption | refine below_drewN ?_ _ | refine Below.setCell ?_ (by first | (simp; done) | (simp; omega)) _ | refine Below.alloc ?_ (by first | (simp; done) | (simp; omega) | omega) _ | refine Below.drew ?_ | refine Below.trans ?_ (Below.mono (by assumption) (by first | (simp; done) | (simp; omega) | omega))))
  have be3 : Below w.heap.size w w3 := BE2.out.trans (bb3.mono BE2.out.size)
  have hch3 := HCH2.out.below bb3
  have c3_z_0 : w3.cell? ⟨w.heap.size, 0, none⟩ = some (.int .i64 o) := cell_keep bb3 c2_z_0
  have c3_z_1 : w3.cell? ⟨w.heap.size, 1, none⟩ = some (.slice p cs.length cap) := cell_keep bb3 c2_z_1
  have l3_z : w.heap.size < w3.heap.size := by omega
  have m3_z : w.heap.size < w3.heap.size + 1 := by omega
  have BE3 := Lib.hid be3
  have HCH3 := Lib.hid hch3
  clear be3 hch3 bb3 hb3 BE2 HCH2 c2_z_0 c2_z_1 l2_z m2_z
  go_wp2_with fail
  refine (rlocal_calls o p cs cap t _ (HCH3.out.below (by repeat (first | exact Below.refl _ _ | assumption | refine below_drewN ?_ _ | refine Below.setCell ?_ (by first | (simp; done) | (simp; omega)) _ | refine Below.alloc ?_ (by first | (simp; done) | (simp; omega) | omega) _ | refine Below.drew ?_ | refine Below.trans ?_ (Below.mono (by assumption) (by first | (simp; done) | (simp; omega) | omega)))))).mono ?_
  rintro e w4 ⟨rfl, hb4⟩
  rw [HA.out, R3]
  have hz4 := hb4.size
  (try simp at hz4)
  have bb4 : Below w3.heap.size w3 w4 := (by repeat (first | exact Below.refl _ _ | assumption | refine below_drewN ?_ _ | refine Below.setCell ?_ (by first | (simp; done) | (simp; omega)) _ | refine Below.alloc ?_ (by first | (simp; done) | (simp; omega) | omega) _ | refine Below.drew ?_ | refine Below.trans ?_ (Below.mono (by assumption) (by first | (simp; done) | (simp; omega) | omega))))
  have be4 : Below w.heap.size w w4 := BE3.out.trans (bb4.mono BE3.out.size)
  have hch4 := HCH3.out.below bb4
  have c4_z_0 : w4.cell? ⟨w.heap.size, 0, none⟩ = some (.int .i64 o) := cell_keep bb4 c3_z_0
  have c4_z_1 : w4.cell? ⟨w.heap.size, 1, none⟩ = some (.slice p cs.length cap) := cell_keep bb4 c3_z_1
  have l4_z : w.heap.size < w4.heap.size := by omega
  have m4_z : w.heap.size < w4.heap.size + 1 := by omega
  have BE4 := Lib.hid be4
  have HCH4 := Lib.hid hch4
  clear be4 hch4 bb4 hb4 BE3 HCH3 c3_z_0 c3_z_1 l3_z m3_z
  go_wp2_with fail
  refine (instant_calls o p cs cap d m later _ (HCH4.out.below (by repeat (first | exact Below.refl _ _ | assumption | refine below_drewN ?_ _ | refine Below.setCell ?_ (by first | (simp; done) | (simp; omega)) _ | refine Below.alloc ?_ (by first | (simp; done) | (simp; omega) | omega) _ | refine Below.drew ?_ | refine Below.trans ?_ (Below.mono (by assumption) (by first | (simp; done) | (simp; omega) | omega)))))).mono ?_
  rintro e w5 ⟨rfl, hb5⟩
  rw [HB.out, R2]
  have hz5 := hb5.size
  (try simp at hz5)
  have bb5 : Below w4.heap.size w4 w5 := (by repeat (first | exact Below.refl _ _ | assumption | refine below_drewN ?_ _ | refine Below.setCell ?_ (by first | (simp; done) | (simp; omega)) _ | refine Below.alloc ?_ (by first | (simp; done) | (simp; omega) | omega) _ | refine Below.drew ?_ | refine Below.trans ?_ (Below.mono (by assumption) (by first | (simp; done) | (simp; omega) | omega))))
  have be5 : Below w.heap.size w w5 := BE4.out.trans (bb5.mono BE4.out.size)
  have hch5 := HCH4.out.below bb5
  have c5_z_0 : w5.cell? ⟨w.heap.size, 0, none⟩ = some (.int .i64 o) := cell_keep bb5 c4_z_0
  have c5_z_1 : w5.cell? ⟨w.heap.size, 1, none⟩ = some (.slice p cs.length cap) := cell_keep bb5 c4_z_1
  have l5_z : w.heap.size < w5.heap.size := by omega
  have m5_z : w.heap.size < w5.heap.size + 1 := by omega
  have BE5 := Lib.hid be5
  have HCH5 := Lib.hid hch5
  clear be5 hch5 bb5 hb5 BE4 HCH4 c4_z_0 c4_z_1 l4_z m4_z
  go_wp2_with fail
  refine (rinstant_calls o p cs cap d m later _ (HCH5.out.below (by repeat (first | exact Below.refl _ _ | assumption | refine below_drewN ?_ _ | refine Below.setCell ?_ (by first | (simp; done) | (simp; omega)) _ | refine Below.alloc ?_ (by first | (simp; done) | (simp; omega) | omega) _ | refine Below.drew ?_ | refine Below.trans ?_ (Below.mono (by assumption) (by first | (simp; done) | (simp; omega) | omega)))))).mono ?_
  rintro e w6 ⟨rfl, hb6⟩
  rw [HB.out, R2]
  have hz6 := hb6.size
  (try simp at hz6)
  have bb6 : Below w5.heap.size w5 w6 := (by repeat (first | exact Below.refl _ _ | assumption | refine below_drewN ?_ _ | refine Below.setCell ?_ (by first | (simp; done) | (simp; omega)) _ | refine Below.alloc ?_ (by first | (simp; done) | (simp; omega) | omega) _ | refine Below.drew ?_ | refine Below.trans ?_ (Below.mono (by assumption) (by first | (simp; done) | (simp; omega) | omega))))
  have be6 : Below w.heap.size w w6 := BE5.out.trans (bb6.mono BE5.out.size)
  have hch6 := HCH5.out.below bb6
  have c6_z_0 : w6.cell? ⟨w.heap.size, 0, none⟩ = some (.int .i64 o) := cell_keep bb6 c5_z_0
  have c6_z_1 : w6.cell? ⟨w.heap.size, 1, none⟩ = some (.slice p cs.length cap) := cell_keep bb6 c5_z_1
  have l6_z : w.heap.size < w6.heap.size := by omega
  have m6_z : w.heap.size < w6.heap.size + 1 := by omega
  have BE6 := Lib.hid be6
  have HCH6 := Lib.hid hch6
  clear be6 hch6 bb6 hb6 BE5 HCH5 c5_z_0 c5_z_1 l5_z m5_z
  go_wp2_with fail
  refine (span_calls o p cs cap d _ (HCH6.out.below (by repeat (first | exact Below.refl _ _ | assumption | refine below_drewN ?_ _ | refine Below.setCell ?_ (by first | (simp; done) | (simp; omega)) _ | refine Below.alloc ?_ (by first | (simp; done) | (simp; omega) | omega) _ | refine Below.drew ?_ | refine Below.trans ?_ (Below.mono (by assumption) (by first | (simp; done) | (simp; omega) | omega)))))).mono ?_
  rintro e w7 ⟨rfl, hb7⟩
  rw [HC.out, R3]
  have hz7 := hb7.size
  (try simp at hz7)
  have bb7 : Below w6.heap.size w6 w7 := (by repeat (first | exact Below.refl _ _ | assumption | refine below_drewN ?_ _ | refine Below.setCell ?_ (by first | (simp; done) | (simp; omega)) _ | refine Below.alloc ?_ (by first | (simp; done) | (simp; omega) | omega) _ | refine Below.drew ?_ | refine Below.trans ?_ (Below.mono (by assumption) (by first | (simp; done) | (simp; omega) | omega))))
  have be7 : Below w.heap.size w w7 := BE6.out.trans (bb7.mono BE6.out.size)
  have hch7 := HCH6.out.below bb7
  have c7_z_0 : w7.cell? ⟨w.heap.size, 0, none⟩ = some (.int .i64 o) := cell_keep bb7 c6_z_0
  have c7_z_1 : w7.cell? ⟨w.heap.size, 1, none⟩ = some (.slice p cs.length cap) := cell_keep bb7 c6_z_1
  have l7_z : w.heap.size < w7.heap.size := by omega
  have m7_z : w.heap.size < w7.heap.size + 1 := by omega
  have BE7 := Lib.hid be7
  have HCH7 := Lib.hid hch7
  clear be7 hch7 bb7 hb7 BE6 HCH6 c6_z_0 c6_z_1 l6_z m6_z
  go_wp2_with fail
  refine (rspan_calls o p cs cap d _ (HCH7.out.below (by repeat (first | exact Below.refl _ _ | assumption | refine below_drewN ?_ _ | refine Below.setCell ?_ (by first | (simp; done) | (simp; omega)) _ | refine Below.alloc ?_ (by first | (simp; done) | (simp; omega) | omega) _ | refine Below.drew ?_ | refine Below.trans ?_ (Below.mono (by assumption) (by first | (simp; done) | (simp; omega) | omega)))))).mono ?_
  rintro e w8 ⟨rfl, hb8⟩
  rw [HC.out, R3]
  have hz8 := hb8.size
  (try simp at hz8)
  have bb8 : Below w7.heap.size w7 w8 := (by repeat (first | exact Below.refl _ _ | assumption | refine below_drewN ?_ _ | refine Below.setCell ?_ (by first | (simp; done) | (simp; omega)) _ | refine Below.alloc ?_ (by first | (simp; done) | (simp; omega) | omega) _ | refine Below.drew ?_ | refine Below.trans ?_ (Below.mono (by assumption) (by first | (simp; done) | (simp; omega) | omega))))
  have be8 : Below w.heap.size w w8 := BE7.out.trans (bb8.mono BE7.out.size)
  have hch8 := HCH7.out.below bb8
  have c8_z_0 : w8.cell? ⟨w.heap.size, 0, none⟩ = some (.int .i64 o) := cell_keep bb8 c7_z_0
  have c8_z_1 : w8.cell? ⟨w.heap.size, 1, none⟩ = some (.slice p cs.length cap) := cell_keep bb8 c7_z_1
  have l8_z : w.heap.size < w8.heap.size := by omega
  have m8_z : w.heap.size < w8.heap.size + 1 := by omega
  have BE8 := Lib.hid be8
  have HCH8 := Lib.hid hch8
  clear be8 hch8 bb8 hb8 BE7 HCH7 c7_z_0 c7_z_1 l7_z m7_z
  go_wp2_with fail
  go_region_held3 (fun w' => Below w8.heap.size w8 w' ∧ ∀ b o, b < w8.heap.size → w'.cell? ⟨b, o, none⟩ = w8.cell? ⟨b, o, none⟩) (first | assumption | exact rholdT (by assumption) (by assumption) | exact rholdS (by repeat (first | exact Below.refl _ _ | assumption | refine below_drewN ?_ _ | refine Below.setCell ?_ (by first | (simp; done) | (simp; omega)) _ | refine Below.alloc ?_ (by first | (simp; done) | (simp; omega) | omega) _ | refine Below.drew ?_ | refine Below.trans ?_ (Below.mono (by assumption) (by first | (simp; done) | (simp; omega) | omega)))))
    (first | (go_at_call 17; refine (valid_calls o p cs cap _ (HCH8.out.below (by repeat (first | exact Below.refl _ _ | assumption | refine below_drewN ?_ _ | refine Below.setCell ?_ (by first | (simp; done) | (simp; omega)) _ | refine Below.alloc ?_ (by first | (simp; done) | (simp; omega) | omega) _ | refine Below.drew ?_ | refine Below.trans ?_ (Below.mono (by assumption) (by first | (simp; done) | (simp; omega) | omega)))))).mono ?_; rintro e w' ⟨rfl, hb'⟩; rw [HD.out]) | (go_at_call 18; refine (rvalid_calls o p cs cap _ (HCH8.out.below (by repeat (first | exact Below.refl _ _ | assumption | refine below_drewN ?_ _ | refine Below.setCell ?_ (by first | (simp; done) | (simp; omega)) _ | refine Below.alloc ?_ (by first | (simp; done) | (simp; omega) | omega) _ | refine Below.drew ?_ | refine Below.trans ?_ (Below.mono (by assumption) (by first | (simp; done) | (simp; omega) | omega)))))).mono ?_; rintro e w' ⟨rfl, hb'⟩; rw [HD.out]))
  obtain ⟨w9, hw9⟩ : ∃ W, W = w' := ⟨_, rfl⟩
  have bb9 : Below w8.heap.size w8 w9 := by rw [hw9]; exact (show Below w8.heap.size w8 w' ∧ ∀ b o, b < w8.heap.size → w'.cell? ⟨b, o, none⟩ = w8.cell? ⟨b, o, none⟩ by assumption).1
  rw [← hw9]
  clear hw9
  have hz9 := bb9.size
  have be9 := BE8.out.trans (bb9.mono BE8.out.size)
  have hch9 := HCH8.out.below bb9
  have c9_z_0 : w9.cell? ⟨w.heap.size, 0, none⟩ = some (.int .i64 o) := cell_keep bb9 c8_z_0
  have c9_z_1 : w9.cell? ⟨w.heap.size, 1, none⟩ = some (.slice p cs.length cap) := cell_keep bb9 c8_z_1
  have l9_z : w.heap.size < w9.heap.size := by omega
  have m9_z : w.heap.size < w9.heap.size + 1 := by omega
  have BE9 := Lib.hid be9
  have HCH9 := Lib.hid hch9
  clear be9 hch9 bb9 BE8 HCH8 c8_z_0 c8_z_1 l8_z m8_z
  go_wp2_with fail
  go_region_held3 (fun w' => Below w9.heap.size w9 w' ∧ ∀ b o, b < w9.heap.size → w'.cell? ⟨b, o, none⟩ = w9.cell? ⟨b, o, none⟩) (first | assumption | exact rholdT (by assumption) (by assumption) | exact rholdS (by repeat (first | exact Below.refl _ _ | assumption | refine below_drewN ?_ _ | refine Below.setCell ?_ (by first | (simp; done) | (simp; omega)) _ | refine Below.alloc ?_ (by first | (simp; done) | (simp; omega) | omega) _ | refine Below.drew ?_ | refine Below.trans ?_ (Below.mono (by assumption) (by first | (simp; done) | (simp; omega) | omega)))))
    (first | (go_at_call 20; refine (instants_calls o p cs cap d m _ (HCH9.out.below (by repeat (first | exact Below.refl _ _ | assumption | refine below_drewN ?_ _ | refine Below.setCell ?_ (by first | (simp; done) | (simp; omega)) _ | refine Below.alloc ?_ (by first | (simp; done) | (simp; omega) | omega) _ | refine Below.drew ?_ | refine Below.trans ?_ (Below.mono (by assumption) (by first | (simp; done) | (simp; omega) | omega)))))).mono ?_; rintro e w' ⟨va, rfl, hia, hb'⟩) | (go_at_call 21; refine (rinstants_calls o p cs cap d m _ (HCH9.out.below (by repeat (first | exact Below.refl _ _ | assumption | refine below_drewN ?_ _ | refine Below.setCell ?_ (by first | (simp; done) | (simp; omega)) _ | refine Below.alloc ?_ (by first | (simp; done) | (simp; omega) | omega) _ | refine Below.drew ?_ | refine Below.trans ?_ (Below.mono (by assumption) (by first | (simp; done) | (simp; omega) | omega)))))).mono ?_; rintro e w' ⟨vb, rfl, hib, hb'⟩) | (go_at_call 19; refine (ints_same _ _ (Zn.instS o cs d m) _ (instS_len ..) (by first | assumption | exact hia | exact hib | exact hia.below (by assumption) | exact hib.below (by assumption)) (by first | assumption | exact hia | exact hib | exact hia.below (by assumption) | exact hib.below (by assumption))).mono ?_; rintro e w' ⟨rfl, hb'⟩))
  obtain ⟨w10, hw10⟩ : ∃ W, W = w' := ⟨_, rfl⟩
  have bb10 : Below w9.heap.size w9 w10 := by rw [hw10]; exact (show Below w9.heap.size w9 w' ∧ ∀ b o, b < w9.heap.size → w'.cell? ⟨b, o, none⟩ = w9.cell? ⟨b, o, none⟩ by assumption).1
  rw [← hw10]
  clear hw10
  have hz10 := bb10.size
  have be10 := BE9.out.trans (bb10.mono BE9.out.size)
  have hch10 := HCH9.out.below bb10
  have c10_z_0 : w10.cell? ⟨w.heap.size, 0, none⟩ = some (.int .i64 o) := cell_keep bb10 c9_z_0
  have c10_z_1 : w10.cell? ⟨w.heap.size, 1, none⟩ = some (.slice p cs.length cap) := cell_keep bb10 c9_z_1
  have l10_z : w.heap.size < w10.heap.size := by omega
  have m10_z : w.heap.size < w10.heap.size + 1 := by omega
  have BE10 := Lib.hid be10
  have HCH10 := Lib.hid hch10
  clear be10 hch10 bb10 BE9 HCH9 c9_z_0 c9_z_1 l9_z m9_z
  go_wp2_with fail
  go_ret
  exact ⟨rfl, by have q := BE10.out; repeat (first | exact q | refine Below.alloc ?_ (by first | omega | (simp; omega)) _ | refine below_drewN ?_ _ | refine Below.drew ?_)⟩
theorem matches_law (o : Int) (p : Option Addr) (cs : List (Int × Int)) (cap : Nat) (t d m : Int) (later : Bool) (w : World) (hcg : Chg w p cs)
    (_ : -9223372036854775808 ≤ o ∧ o ≤ 9223372036854775807) (_ : ∀ c ∈ cs, (-9223372036854775808 ≤ c.1 ∧ c.1 ≤ 9223372036854775807) ∧ (-9223372036854775808 ≤ c.2 ∧ c.2 ≤ 9223372036854775807))
    (_ : -9223372036854775808 ≤ t) (_ : t ≤ 9223372036854775807) (_ : -9223372036854775808 ≤ d) (_ : d ≤ 9223372036854775807) (_ : -9223372036854775808 ≤ m) (_ : m ≤ 9223372036854775807) :
    Calls Try.prog 3 #[.agg #[.int .i64 o, .slice p cs.length cap], .int .i64 t, .int .i64 d, .int .i64 m, .bool later] w fun e w' => e = .returned (.bool true) ∧ Below w.heap.size w w' := by
  by_cases hn : 100 < cs.length
  · exact matches_many o p cs cap t d m later w hcg hn
  have hn' : cs.length ≤ 100 := by omega
  rcases ha : Zn.localS o cs t with ⟨a, b, e⟩
  rcases hb : Zn.instantS o cs d m later with ⟨i, f⟩
  rcases hc : Zn.spanS o cs d with ⟨q, r, g⟩
  exact matches_few o p cs cap t d m a b e i f q r g later _ w hcg hn' ha hb hc rfl
end Go.Proofs.Ytcacmigfpahicaa

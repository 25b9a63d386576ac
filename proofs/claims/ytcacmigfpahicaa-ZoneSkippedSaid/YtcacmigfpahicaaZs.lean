/- ZoneSkipped: the walk of the law. -/
import Derived.Test.YtcacmigfpahicaaZnH
namespace Go.Proofs.Ytcacmigfpahicaa
open Go.RowKit Go.Shelf

set_option maxRecDepth 100000 in
set_option maxHeartbeats 1600000 in
theorem skipped_many (o : Int) (p : Option Addr) (cs : List (Int × Int)) (cap : Nat) (r s : Int) (later : Bool) (w : World) (hcg : Chg w p cs) (hn : 100 < cs.length) :
    Calls Try.prog 5 #[.agg #[.int .i64 o, .slice p cs.length cap], .int .u32 r, .int .u16 s, .bool later] w fun e w' => e = .returned (.bool true) ∧ Below w.heap.size w w' := by
  have HCH0 := Lib.hid hcg
  clear hcg
  go_enter Try.func5, Try.ntmps5
  go_wp2_with fail
  refine (head_any _).mono ?_
  rintro e w1 ⟨rfl, hb1⟩
  have hz1 := hb1.size
  (try simp at hz1)
  have bb1 : Below w.heap.size w w1 := (by repeat (first | exact Below.refl _ _ | assumption | refine below_drewN ?_ _ | refine Below.setCell ?_ (by first | (simp; done) | (simp; omega)) _ | refine Below.alloc ?_ (by first | (simp; done) | (simp; omega) | omega) _ | refine Below.drew ?_ | refine Below.trans ?_ (Below.mono (by assumption) (by first | (simp; done) | (simp; omega) | omega))))
  have be1 : Below w.heap.size w w1 := bb1
  have hch1 := HCH0.out.below bb1
  have c1_z_0 : w1.cell? ⟨w.heap.size, 0, none⟩ = some (.int .i64 o) := cell_keep hb1 (by go_simp)
  have c1_z_1 : w1.cell? ⟨w.heap.size, 1, none⟩ = some (.slice p cs.length cap) := cell_keep hb1 (by go_simp)
  have l1_z : w.heap.size < w1.heap.size := by omega
  have m1_z : w.heap.size < w1.heap.size + 1 := by omega
  have BE1 := Lib.hid be1
  have HCH1 := Lib.hid hch1
  clear be1 hch1 bb1 hb1 HCH0
  go_wp2_with fail
  refine (few_no o p cs cap _ hn).mono ?_
  rintro e w2 ⟨rfl, hb2⟩
  have hz2 := hb2.size
  (try simp at hz2)
  have bb2 : Below w1.heap.size w1 w2 := (by repeat (first | exact Below.refl _ _ | assumption | refine below_drewN ?_ _ | refine Below.setCell ?_ (by first | (simp; done) | (simp; omega)) _ | refine Below.alloc ?_ (by first | (simp; done) | (simp; omega) | omega) _ | refine Below.drew ?_ | refine Below.trans ?_ (Below.mono (by assumption) (by first | (simp; done) | (simp; omega) | omega))))
  have be2 : Below w.heap.size w w2 := BE1.out.trans (bb2.mono BE1.out.size)
  have hch2 := HCH1.out.below bb2
  have c2_z_0 : w2.cell? ⟨w.heap.size, 0, none⟩ = some (.int .i64 o) := cell_keep bb2 c1_z_0
  have c2_z_1 : w2.cell? ⟨w.heap.size, 1, none⟩ = some (.slice p cs.length cap) := cell_keep bb2 c1_z_1
  have l2_z : w.heap.size < w2.heap.size := by omega
  have m2_z : w.heap.size < w2.heap.size + 1 := by omega
  have BE2 := Lib.hid be2
  have HCH2 := Lib.hid hch2
  clear be2 hch2 bb2 hb2 BE1 HCH1 c1_z_0 c1_z_1 l1_z m1_z
  go_wp2_with fail
  go_ret
  exact ⟨rfl, by have q := BE2.out; repeat (first | exact q | refine Below.alloc ?_ (by first | omega | (simp; omega)) _ | refine below_drewN ?_ _ | refine Below.drew ?_)⟩
set_option maxRecDepth 100000 in
set_option maxHeartbeats 1600000 in
theorem skipped_one_f (o : Int) (p : Option Addr) (cs : List (Int × Int)) (cap : Nat) (r s d m x : Int) (w : World) (hcg : Chg w p cs) (h0 : 0 ≤ r) (h1 : r ≤ 4294967295) (h2 : 0 ≤ s) (h3 : s ≤ 65535) (hd : r % 73049 = d) (hm : s % 1440 = m) (hn : cs.length ≤ 100) (hi : Zn.instS o cs d m = [x]) (ht : Zn.instantS o cs d m false = (x, 0)) :
    Calls Try.prog 5 #[.agg #[.int .i64 o, .slice p cs.length cap], .int .u32 r, .int .u16 s, .bool false] w fun e w' => e = .returned (.bool true) ∧ Below w.heap.size w w' := by
  have HCH0 := Lib.hid hcg
  have HD := Lib.hid hd
  have HM := Lib.hid hm
  clear hcg hd hm
  have HI := Lib.hid hi
  have HT := Lib.hid ht
  clear hi ht
  go_enter Try.func5, Try.ntmps5
  go_wp2_with fail
  refine (head_any _).mono ?_
  rintro e w1 ⟨rfl, hb1⟩
  have hz1 := hb1.size
  (try simp at hz1)
  have bb1 : Below w.heap.size w w1 := (by repeat (first | exact Below.refl _ _ | assumption | refine below_drewN ?_ _ | refine Below.setCell ?_ (by first | (simp; done) | (simp; omega)) _ | refine Below.alloc ?_ (by first | (simp; done) | (simp; omega) | omega) _ | refine Below.drew ?_ | refine Below.trans ?_ (Below.mono (by assumption) (by first | (simp; done) | (simp; omega) | omega))))
  have be1 : Below w.heap.size w w1 := bb1
  have hch1 := HCH0.out.below bb1
  have c1_z_0 : w1.cell? ⟨w.heap.size, 0, none⟩ = some (.int .i64 o) := cell_keep hb1 (by go_simp)
  have c1_z_1 : w1.cell? ⟨w.heap.size, 1, none⟩ = some (.slice p cs.length cap) := cell_keep hb1 (by go_simp)
  have l1_z : w.heap.size < w1.heap.size := by omega
  have m1_z : w.heap.size < w1.heap.size + 1 := by omega
  have BE1 := Lib.hid be1
  have HCH1 := Lib.hid hch1
  clear be1 hch1 bb1 hb1 HCH0
  go_wp2_with fail
  refine (few_yes o p cs cap _ hn).mono ?_
  rintro e w2 ⟨rfl, hb2⟩
  have hz2 := hb2.size
  (try simp at hz2)
  have bb2 : Below w1.heap.size w1 w2 := (by repeat (first | exact Below.refl _ _ | assumption | refine below_drewN ?_ _ | refine Below.setCell ?_ (by first | (simp; done) | (simp; omega)) _ | refine Below.alloc ?_ (by first | (simp; done) | (simp; omega) | omega) _ | refine Below.drew ?_ | refine Below.trans ?_ (Below.mono (by assumption) (by first | (simp; done) | (simp; omega) | omega))))
  have be2 : Below w.heap.size w w2 := BE1.out.trans (bb2.mono BE1.out.size)
  have hch2 := HCH1.out.below bb2
  have c2_z_0 : w2.cell? ⟨w.heap.size, 0, none⟩ = some (.int .i64 o) := cell_keep bb2 c1_z_0
  have c2_z_1 : w2.cell? ⟨w.heap.size, 1, none⟩ = some (.slice p cs.length cap) := cell_keep bb2 c1_z_1
  have l2_z : w.heap.size < w2.heap.size := by omega
  have m2_z : w.heap.size < w2.heap.size + 1 := by omega
  have BE2 := Lib.hid be2
  have HCH2 := Lib.hid hch2
  clear be2 hch2 bb2 hb2 BE1 HCH1 c1_z_0 c1_z_1 l1_z m1_z
  go_wp2_with fail
  simp only [HD.out, HM.out]
  refine (instants_calls o p cs cap d m _ (HCH2.out.below (by repeat (first | exact Below.refl _ _ | assumption | refine below_drewN ?_ _ | refine Below.setCell ?_ (by first | (simp; done) | (simp; omega)) _ | refine Below.alloc ?_ (by first | (simp; done) | (simp; omega) | omega) _ | refine Below.drew ?_ | refine Below.trans ?_ (Below.mono (by assumption) (by first | (simp; done) | (simp; omega) | omega)))))).mono ?_
  rintro e w3 ⟨v, rfl, hi, hb3⟩
  have hz3 := hb3.size
  (try simp at hz3)
  have bb3 : Below w2.heap.size w2 w3 := (by repeat (first | exact Below.refl _ _ | assumption | refine below_drewN ?_ _ | refine Below.setCell ?_ (by first | (simp; done) | (simp; omega)) _ | refine Below.alloc ?_ (by first | (simp; done) | (simp; omega) | omega) _ | refine Below.drew ?_ | refine Below.trans ?_ (Below.mono (by assumption) (by first | (simp; done) | (simp; omega) | omega))))
  have be3 : Below w.heap.size w w3 := BE2.out.trans (bb3.mono BE2.out.size)
  have hch3 := HCH2.out.below bb3
  have c3_z_0 : w3.cell? ⟨w.heap.size, 0, none⟩ = some (.int .i64 o) := cell_keep bb3 c2_z_0
  have c3_z_1 : w3.cell? ⟨w.heap.size, 1, none⟩ = some (.slice p cs.length cap) := cell_keep bb3 c2_z_1
  have l3_z : w.heap.size < w3.heap.size := by omega
  have m3_z : w.heap.size < w3.heap.size + 1 := by omega
  rw [HI.out] at hi
  obtain ⟨q, cap2, rfl, hi⟩ := hi
  obtain ⟨g, rfl, hj⟩ := hi.resolve_left (by simp)
  have c3_x_0 : w3.cell? ⟨g, 0, none⟩ = some (.int .i64 x) := hj 0 (by simp)
  have l3_x : g < w3.heap.size := Same.lt_of_cell c3_x_0
  have m3_x : g < w3.heap.size + 1 := by omega
  clear hi hj
  simp only [List.length_cons, List.length_nil, Nat.zero_add]
  have BE3 := Lib.hid be3
  have HCH3 := Lib.hid hch3
  clear be3 hch3 bb3 hb3 BE2 HCH2 c2_z_0 c2_z_1 l2_z m2_z
  go_wp2_with fail
  refine (instant_calls o p cs cap d m false _ (HCH3.out.below (by repeat (first | exact Below.refl _ _ | assumption | refine below_drewN ?_ _ | refine Below.setCell ?_ (by first | (simp; done) | (simp; omega)) _ | refine Below.alloc ?_ (by first | (simp; done) | (simp; omega) | omega) _ | refine Below.drew ?_ | refine Below.trans ?_ (Below.mono (by assumption) (by first | (simp; done) | (simp; omega) | omega)))))).mono ?_
  rintro e w4 ⟨rfl, hb4⟩
  rw [HT.out, R2]
  have hz4 := hb4.size
  (try simp at hz4)
  have bb4 : Below w3.heap.size w3 w4 := (by repeat (first | exact Below.refl _ _ | assumption | refine below_drewN ?_ _ | refine Below.setCell ?_ (by first | (simp; done) | (simp; omega)) _ | refine Below.alloc ?_ (by first | (simp; done) | (simp; omega) | omega) _ | refine Below.drew ?_ | refine Below.trans ?_ (Below.mono (by assumption) (by first | (simp; done) | (simp; omega) | omega))))
  have be4 : Below w.heap.size w w4 := BE3.out.trans (bb4.mono BE3.out.size)
  have hch4 := HCH3.out.below bb4
  have c4_z_0 : w4.cell? ⟨w.heap.size, 0, none⟩ = some (.int .i64 o) := cell_keep bb4 c3_z_0
  have c4_z_1 : w4.cell? ⟨w.heap.size, 1, none⟩ = some (.slice p cs.length cap) := cell_keep bb4 c3_z_1
  have l4_z : w.heap.size < w4.heap.size := by omega
  have m4_z : w.heap.size < w4.heap.size + 1 := by omega
  have c4_x_0 : w4.cell? ⟨g, 0, none⟩ = some (.int .i64 x) := cell_keep bb4 c3_x_0
  have l4_x : g < w4.heap.size := by omega
  have m4_x : g < w4.heap.size + 1 := by omega
  have BE4 := Lib.hid be4
  have HCH4 := Lib.hid hch4
  clear be4 hch4 bb4 hb4 BE3 HCH3 c3_z_0 c3_z_1 l3_z m3_z c3_x_0 l3_x m3_x
  go_wp2_with fail
  go_ret
  exact ⟨rfl, by have q := BE4.out; repeat (first | exact q | refine Below.alloc ?_ (by first | omega | (simp; omega)) _ | refine below_drewN ?_ _ | refine Below.drew ?_)⟩
set_option maxRecDepth 100000 in
set_option maxHeartbeats 1600000 in
theorem skipped_one_t (o : Int) (p : Option Addr) (cs : List (Int × Int)) (cap : Nat) (r s d m x : Int) (w : World) (hcg : Chg w p cs) (h0 : 0 ≤ r) (h1 : r ≤ 4294967295) (h2 : 0 ≤ s) (h3 : s ≤ 65535) (hd : r % 73049 = d) (hm : s % 1440 = m) (hn : cs.length ≤ 100) (hi : Zn.instS o cs d m = [x]) (ht : Zn.instantS o cs d m true = (x, 0)) :
    Calls Try.prog 5 #[.agg #[.int .i64 o, .slice p cs.length cap], .int .u32 r, .int .u16 s, .bool true] w fun e w' => e = .returned (.bool true) ∧ Below w.heap.size w w' := by
  have HCH0 := Lib.hid hcg
  have HD := Lib.hid hd
  have HM := Lib.hid hm
  clear hcg hd hm
  have HI := Lib.hid hi
  have HT := Lib.hid ht
  clear hi ht
  go_enter Try.func5, Try.ntmps5
  go_wp2_with fail
  refine (head_any _).mono ?_
  rintro e w1 ⟨rfl, hb1⟩
  have hz1 := hb1.size
  (try simp at hz1)
  have bb1 : Below w.heap.size w w1 := (by repeat (first | exact Below.refl _ _ | assumption | refine below_drewN ?_ _ | refine Below.setCell ?_ (by first | (simp; done) | (simp; omega)) _ | refine Below.alloc ?_ (by first | (simp; done) | (simp; omega) | omega) _ | refine Below.drew ?_ | refine Below.trans ?_ (Below.mono (by assumption) (by first | (simp; done) | (simp; omega) | omega))))
  have be1 : Below w.heap.size w w1 := bb1
  have hch1 := HCH0.out.below bb1
  have c1_z_0 : w1.cell? ⟨w.heap.size, 0, none⟩ = some (.int .i64 o) := cell_keep hb1 (by go_simp)
  have c1_z_1 : w1.cell? ⟨w.heap.size, 1, none⟩ = some (.slice p cs.length cap) := cell_keep hb1 (by go_simp)
  have l1_z : w.heap.size < w1.heap.size := by omega
  have m1_z : w.heap.size < w1.heap.size + 1 := by omega
  have BE1 := Lib.hid be1
  have HCH1 := Lib.hid hch1
  clear be1 hch1 bb1 hb1 HCH0
  go_wp2_with fail
  refine (few_yes o p cs cap _ hn).mono ?_
  rintro e w2 ⟨rfl, hb2⟩
  have hz2 := hb2.size
  (try simp at hz2)
  have bb2 : Below w1.heap.size w1 w2 := (by repeat (first | exact Below.refl _ _ | assumption | refine below_drewN ?_ _ | refine Below.setCell ?_ (by first | (simp; done) | (simp; omega)) _ | refine Below.alloc ?_ (by first | (simp; done) | (simp; omega) | omega) _ | refine Below.drew ?_ | refine Below.trans ?_ (Below.mono (by assumption) (by first | (simp; done) | (simp; omega) | omega))))
  have be2 : Below w.heap.size w w2 := BE1.out.trans (bb2.mono BE1.out.size)
  have hch2 := HCH1.out.below bb2
  have c2_z_0 : w2.cell? ⟨w.heap.size, 0, none⟩ = some (.int .i64 o) := cell_keep bb2 c1_z_0
  have c2_z_1 : w2.cell? ⟨w.heap.size, 1, none⟩ = some (.slice p cs.length cap) := cell_keep bb2 c1_z_1
  have l2_z : w.heap.size < w2.heap.size := by omega
  have m2_z : w.heap.size < w2.heap.size + 1 := by omega
  have BE2 := Lib.hid be2
  have HCH2 := Lib.hid hch2
  clear be2 hch2 bb2 hb2 BE1 HCH1 c1_z_0 c1_z_1 l1_z m1_z
  go_wp2_with fail
  simp only [HD.out, HM.out]
  refine (instants_calls o p cs cap d m _ (HCH2.out.below (by repeat (first | exact Below.refl _ _ | assumption | refine below_drewN ?_ _ | refine Below.setCell ?_ (by first | (simp; done) | (simp; omega)) _ | refine Below.alloc ?_ (by first | (simp; done) | (simp; omega) | omega) _ | refine Below.drew ?_ | refine Below.trans ?_ (Below.mono (by assumption) (by first | (simp; done) | (simp; omega) | omega)))))).mono ?_
  rintro e w3 ⟨v, rfl, hi, hb3⟩
  have hz3 := hb3.size
  (try simp at hz3)
  have bb3 : Below w2.heap.size w2 w3 := (by repeat (first | exact Below.refl _ _ | assumption | refine below_drewN ?_ _ | refine Below.setCell ?_ (by first | (simp; done) | (simp; omega)) _ | refine Below.alloc ?_ (by first | (simp; done) | (simp; omega) | omega) _ | refine Below.drew ?_ | refine Below.trans ?_ (Below.mono (by assumption) (by first | (simp; done) | (simp; omega) | omega))))
  have be3 : Below w.heap.size w w3 := BE2.out.trans (bb3.mono BE2.out.size)
  have hch3 := HCH2.out.below bb3
  have c3_z_0 : w3.cell? ⟨w.heap.size, 0, none⟩ = some (.int .i64 o) := cell_keep bb3 c2_z_0
  have c3_z_1 : w3.cell? ⟨w.heap.size, 1, none⟩ = some (.slice p cs.length cap) := cell_keep bb3 c2_z_1
  have l3_z : w.heap.size < w3.heap.size := by omega
  have m3_z : w.heap.size < w3.heap.size + 1 := by omega
  rw [HI.out] at hi
  obtain ⟨q, cap2, rfl, hi⟩ := hi
  obtain ⟨g, rfl, hj⟩ := hi.resolve_left (by simp)
  have c3_x_0 : w3.cell? ⟨g, 0, none⟩ = some (.int .i64 x) := hj 0 (by simp)
  have l3_x : g < w3.heap.size := Same.lt_of_cell c3_x_0
  have m3_x : g < w3.heap.size + 1 := by omega
  clear hi hj
  simp only [List.length_cons, List.length_nil, Nat.zero_add]
  have BE3 := Lib.hid be3
  have HCH3 := Lib.hid hch3
  clear be3 hch3 bb3 hb3 BE2 HCH2 c2_z_0 c2_z_1 l2_z m2_z
  go_wp2_with fail
  refine (instant_calls o p cs cap d m true _ (HCH3.out.below (by repeat (first | exact Below.refl _ _ | assumption | refine below_drewN ?_ _ | refine Below.setCell ?_ (by first | (simp; done) | (simp; omega)) _ | refine Below.alloc ?_ (by first | (simp; done) | (simp; omega) | omega) _ | refine Below.drew ?_ | refine Below.trans ?_ (Below.mono (by assumption) (by first | (simp; done) | (simp; omega) | omega)))))).mono ?_
  rintro e w4 ⟨rfl, hb4⟩
  rw [HT.out, R2]
  have hz4 := hb4.size
  (try simp at hz4)
  have bb4 : Below w3.heap.size w3 w4 := (by repeat (first | exact Below.refl _ _ | assumption | refine below_drewN ?_ _ | refine Below.setCell ?_ (by first | (simp; done) | (simp; omega)) _ | refine Below.alloc ?_ (by first | (simp; done) | (simp; omega) | omega) _ | refine Below.drew ?_ | refine Below.trans ?_ (Below.mono (by assumption) (by first | (simp; done) | (simp; omega) | omega))))
  have be4 : Below w.heap.size w w4 := BE3.out.trans (bb4.mono BE3.out.size)
  have hch4 := HCH3.out.below bb4
  have c4_z_0 : w4.cell? ⟨w.heap.size, 0, none⟩ = some (.int .i64 o) := cell_keep bb4 c3_z_0
  have c4_z_1 : w4.cell? ⟨w.heap.size, 1, none⟩ = some (.slice p cs.length cap) := cell_keep bb4 c3_z_1
  have l4_z : w.heap.size < w4.heap.size := by omega
  have m4_z : w.heap.size < w4.heap.size + 1 := by omega
  have c4_x_0 : w4.cell? ⟨g, 0, none⟩ = some (.int .i64 x) := cell_keep bb4 c3_x_0
  have l4_x : g < w4.heap.size := by omega
  have m4_x : g < w4.heap.size + 1 := by omega
  have BE4 := Lib.hid be4
  have HCH4 := Lib.hid hch4
  clear be4 hch4 bb4 hb4 BE3 HCH3 c3_z_0 c3_z_1 l3_z m3_z c3_x_0 l3_x m3_x
  go_wp2_with fail
  go_ret
  exact ⟨rfl, by have q := BE4.out; repeat (first | exact q | refine Below.alloc ?_ (by first | omega | (simp; omega)) _ | refine below_drewN ?_ _ | refine Below.drew ?_)⟩
set_option maxRecDepth 100000 in
set_option maxHeartbeats 1600000 in
theorem skipped_two_f (o : Int) (p : Option Addr) (cs : List (Int × Int)) (cap : Nat) (r s d m x y : Int) (w : World) (hcg : Chg w p cs) (h0 : 0 ≤ r) (h1 : r ≤ 4294967295) (h2 : 0 ≤ s) (h3 : s ≤ 65535) (hd : r % 73049 = d) (hm : s % 1440 = m) (hn : cs.length ≤ 100) (hi : Zn.instS o cs d m = [x, y]) (ht : Zn.instantS o cs d m false = (x, 0)) :
    Calls Try.prog 5 #[.agg #[.int .i64 o, .slice p cs.length cap], .int .u32 r, .int .u16 s, .bool false] w fun e w' => e = .returned (.bool true) ∧ Below w.heap.size w w' := by
  have HCH0 := Lib.hid hcg
  have HD := Lib.hid hd
  have HM := Lib.hid hm
  clear hcg hd hm
  have HI := Lib.hid hi
  have HT := Lib.hid ht
  clear hi ht
  go_enter Try.func5, Try.ntmps5
  go_wp2_with fail
  refine (head_any _).mono ?_
  rintro e w1 ⟨rfl, hb1⟩
  have hz1 := hb1.size
  (try simp at hz1)
  have bb1 : Below w.heap.size w w1 := (by repeat (first | exact Below.refl _ _ | assumption | refine below_drewN ?_ _ | refine Below.setCell ?_ (by first | (simp; done) | (simp; omega)) _ | refine Below.alloc ?_ (by first | (simp; done) | (simp; omega) | omega) _ | refine Below.drew ?_ | refine Below.trans ?_ (Below.mono (by assumption) (by first | (simp; done) | (simp; omega) | omega))))
  have be1 : Below w.heap.size w w1 := bb1
  have hch1 := HCH0.out.below bb1
  have c1_z_0 : w1.cell? ⟨w.heap.size, 0, none⟩ = some (.int .i64 o) := cell_keep hb1 (by go_simp)
  have c1_z_1 : w1.cell? ⟨w.heap.size, 1, none⟩ = some (.slice p cs.length cap) := cell_keep hb1 (by go_simp)
  have l1_z : w.heap.size < w1.heap.size := by omega
  have m1_z : w.heap.size < w1.heap.size + 1 := by omega
  have BE1 := Lib.hid be1
  have HCH1 := Lib.hid hch1
  clear be1 hch1 bb1 hb1 HCH0
  go_wp2_with fail
  refine (few_yes o p cs cap _ hn).mono ?_
  rintro e w2 ⟨rfl, hb2⟩
  have hz2 := hb2.size
  (try simp at hz2)
  have bb2 : Below w1.heap.size w1 w2 := (by repeat (first | exact Below.refl _ _ | assumption | refine below_drewN ?_ _ | refine Below.setCell ?_ (by first | (simp; done) | (simp; omega)) _ | refine Below.alloc ?_ (by first | (simp; done) | (simp; omega) | omega) _ | refine Below.drew ?_ | refine Below.trans ?_ (Below.mono (by assumption) (by first | (simp; done) | (simp; omega) | omega))))
  have be2 : Below w.heap.size w w2 := BE1.out.trans (bb2.mono BE1.out.size)
  have hch2 := HCH1.out.below bb2
  have c2_z_0 : w2.cell? ⟨w.heap.size, 0, none⟩ = some (.int .i64 o) := cell_keep bb2 c1_z_0
  have c2_z_1 : w2.cell? ⟨w.heap.size, 1, none⟩ = some (.slice p cs.length cap) := cell_keep bb2 c1_z_1
  have l2_z : w.heap.size < w2.heap.size := by omega
  have m2_z : w.heap.size < w2.heap.size + 1 := by omega
  have BE2 := Lib.hid be2
  have HCH2 := Lib.hid hch2
  clear be2 hch2 bb2 hb2 BE1 HCH1 c1_z_0 c1_z_1 l1_z m1_z
  go_wp2_with fail
  simp only [HD.out, HM.out]
  refine (instants_calls o p cs cap d m _ (HCH2.out.below (by repeat (first | exact Below.refl _ _ | assumption | refine below_drewN ?_ _ | refine Below.setCell ?_ (by first | (simp; done) | (simp; omega)) _ | refine Below.alloc ?_ (by first | (simp; done) | (simp; omega) | omega) _ | refine Below.drew ?_ | refine Below.trans ?_ (Below.mono (by assumption) (by first | (simp; done) | (simp; omega) | omega)))))).mono ?_
  rintro e w3 ⟨v, rfl, hi, hb3⟩
  have hz3 := hb3.size
  (try simp at hz3)
  have bb3 : Below w2.heap.size w2 w3 := (by repeat (first | exact Below.refl _ _ | assumption | refine below_drewN ?_ _ | refine Below.setCell ?_ (by first | (simp; done) | (simp; omega)) _ | refine Below.alloc ?_ (by first | (simp; done) | (simp; omega) | omega) _ | refine Below.drew ?_ | refine Below.trans ?_ (Below.mono (by assumption) (by first | (simp; done) | (simp; omega) | omega))))
  have be3 : Below w.heap.size w w3 := BE2.out.trans (bb3.mono BE2.out.size)
  have hch3 := HCH2.out.below bb3
  have c3_z_0 : w3.cell? ⟨w.heap.size, 0, none⟩ = some (.int .i64 o) := cell_keep bb3 c2_z_0
  have c3_z_1 : w3.cell? ⟨w.heap.size, 1, none⟩ = some (.slice p cs.length cap) := cell_keep bb3 c2_z_1
  have l3_z : w.heap.size < w3.heap.size := by omega
  have m3_z : w.heap.size < w3.heap.size + 1 := by omega
  rw [HI.out] at hi
  obtain ⟨q, cap2, rfl, hi⟩ := hi
  obtain ⟨g, rfl, hj⟩ := hi.resolve_left (by simp)
  have c3_x_0 : w3.cell? ⟨g, 0, none⟩ = some (.int .i64 x) := hj 0 (by simp)
  have c3_x_1 : w3.cell? ⟨g, 1, none⟩ = some (.int .i64 y) := hj 1 (by simp)
  have l3_x : g < w3.heap.size := Same.lt_of_cell c3_x_0
  have m3_x : g < w3.heap.size + 1 := by omega
  clear hi hj
  simp only [List.length_cons, List.length_nil, Nat.zero_add, Nat.reduceAdd]
  have BE3 := Lib.hid be3
  have HCH3 := Lib.hid hch3
  clear be3 hch3 bb3 hb3 BE2 HCH2 c2_z_0 c2_z_1 l2_z m2_z
  go_wp2_with fail
  refine (instant_calls o p cs cap d m false _ (HCH3.out.below (by repeat (first | exact Below.refl _ _ | assumption | refine below_drewN ?_ _ | refine Below.setCell ?_ (by first | (simp; done) | (simp; omega)) _ | refine Below.alloc ?_ (by first | (simp; done) | (simp; omega) | omega) _ | refine Below.drew ?_ | refine Below.trans ?_ (Below.mono (by assumption) (by first | (simp; done) | (simp; omega) | omega)))))).mono ?_
  rintro e w4 ⟨rfl, hb4⟩
  rw [HT.out, R2]
  have hz4 := hb4.size
  (try simp at hz4)
  have bb4 : Below w3.heap.size w3 w4 := (by repeat (first | exact Below.refl _ _ | assumption | refine below_drewN ?_ _ | refine Below.setCell ?_ (by first | (simp; done) | (simp; omega)) _ | refine Below.alloc ?_ (by first | (simp; done) | (simp; omega) | omega) _ | refine Below.drew ?_ | refine Below.trans ?_ (Below.mono (by assumption) (by first | (simp; done) | (simp; omega) | omega))))
  have be4 : Below w.heap.size w w4 := BE3.out.trans (bb4.mono BE3.out.size)
  have hch4 := HCH3.out.below bb4
  have c4_z_0 : w4.cell? ⟨w.heap.size, 0, none⟩ = some (.int .i64 o) := cell_keep bb4 c3_z_0
  have c4_z_1 : w4.cell? ⟨w.heap.size, 1, none⟩ = some (.slice p cs.length cap) := cell_keep bb4 c3_z_1
  have l4_z : w.heap.size < w4.heap.size := by omega
  have m4_z : w.heap.size < w4.heap.size + 1 := by omega
  have c4_x_0 : w4.cell? ⟨g, 0, none⟩ = some (.int .i64 x) := cell_keep bb4 c3_x_0
  have c4_x_1 : w4.cell? ⟨g, 1, none⟩ = some (.int .i64 y) := cell_keep bb4 c3_x_1
  have l4_x : g < w4.heap.size := by omega
  have m4_x : g < w4.heap.size + 1 := by omega
  have BE4 := Lib.hid be4
  have HCH4 := Lib.hid hch4
  clear be4 hch4 bb4 hb4 BE3 HCH3 c3_z_0 c3_z_1 l3_z m3_z c3_x_0 c3_x_1 l3_x m3_x
  go_wp2_with fail
  go_ret
  exact ⟨rfl, by have q := BE4.out; repeat (first | exact q | refine Below.alloc ?_ (by first | omega | (simp; omega)) _ | refine below_drewN ?_ _ | refine Below.drew ?_)⟩
set_option maxRecDepth 100000 in
set_option maxHeartbeats 1600000 in
theorem skipped_two_t (o : Int) (p : Option Addr) (cs : List (Int × Int)) (cap : Nat) (r s d m x y : Int) (w : World) (hcg : Chg w p cs) (h0 : 0 ≤ r) (h1 : r ≤ 4294967295) (h2 : 0 ≤ s) (h3 : s ≤ 65535) (hd : r % 73049 = d) (hm : s % 1440 = m) (hn : cs.length ≤ 100) (hi : Zn.instS o cs d m = [x, y]) (ht : Zn.instantS o cs d m true = (y, 0)) :
    Calls Try.prog 5 #[.agg #[.int .i64 o, .slice p cs.length cap], .int .u32 r, .int .u16 s, .bool true] w fun e w' => e = .returned (.bool true) ∧ Below w.heap.size w w' := by
  have HCH0 := Lib.hid hcg
  have HD := Lib.hid hd
  have HM := Lib.hid hm
  clear hcg hd hm
  have HI := Lib.hid hi
  have HT := Lib.hid ht
  clear hi ht
  go_enter Try.func5, Try.ntmps5
  go_wp2_with fail
  refine (head_any _).mono ?_
  rintro e w1 ⟨rfl, hb1⟩
  have hz1 := hb1.size
  (try simp at hz1)
  have bb1 : Below w.heap.size w w1 := (by repeat (first | exact Below.refl _ _ | assumption | refine below_drewN ?_ _ | refine Below.setCell ?_ (by first | (simp; done) | (simp; omega)) _ | refine Below.alloc ?_ (by first | (simp; done) | (simp; omega) | omega) _ | refine Below.drew ?_ | refine Below.trans ?_ (Below.mono (by assumption) (by first | (simp; done) | (simp; omega) | omega))))
  have be1 : Below w.heap.size w w1 := bb1
  have hch1 := HCH0.out.below bb1
  have c1_z_0 : w1.cell? ⟨w.heap.size, 0, none⟩ = some (.int .i64 o) := cell_keep hb1 (by go_simp)
  have c1_z_1 : w1.cell? ⟨w.heap.size, 1, none⟩ = some (.slice p cs.length cap) := cell_keep hb1 (by go_simp)
  have l1_z : w.heap.size < w1.heap.size := by omega
  have m1_z : w.heap.size < w1.heap.size + 1 := by omega
  have BE1 := Lib.hid be1
  have HCH1 := Lib.hid hch1
  clear be1 hch1 bb1 hb1 HCH0
  go_wp2_with fail
  refine (few_yes o p cs cap _ hn).mono ?_
  rintro e w2 ⟨rfl, hb2⟩
  have hz2 := hb2.size
  (try simp at hz2)
  have bb2 : Below w1.heap.size w1 w2 := (by repeat (first | exact Below.refl _ _ | assumption | refine below_drewN ?_ _ | refine Below.setCell ?_ (by first | (simp; done) | (simp; omega)) _ | refine Below.alloc ?_ (by first | (simp; done) | (simp; omega) | omega) _ | refine Below.drew ?_ | refine Below.trans ?_ (Below.mono (by assumption) (by first | (simp; done) | (simp; omega) | omega))))
  have be2 : Below w.heap.size w w2 := BE1.out.trans (bb2.mono BE1.out.size)
  have hch2 := HCH1.out.below bb2
  have c2_z_0 : w2.cell? ⟨w.heap.size, 0, none⟩ = some (.int .i64 o) := cell_keep bb2 c1_z_0
  have c2_z_1 : w2.cell? ⟨w.heap.size, 1, none⟩ = some (.slice p cs.length cap) := cell_keep bb2 c1_z_1
  have l2_z : w.heap.size < w2.heap.size := by omega
  have m2_z : w.heap.size < w2.heap.size + 1 := by omega
  have BE2 := Lib.hid be2
  have HCH2 := Lib.hid hch2
  clear be2 hch2 bb2 hb2 BE1 HCH1 c1_z_0 c1_z_1 l1_z m1_z
  go_wp2_with fail
  simp only [HD.out, HM.out]
  refine (instants_calls o p cs cap d m _ (HCH2.out.below (by repeat (first | exact Below.refl _ _ | assumption | refine below_drewN ?_ _ | refine Below.setCell ?_ (by first | (simp; done) | (simp; omega)) _ | refine Below.alloc ?_ (by first | (simp; done) | (simp; omega) | omega) _ | refine Below.drew ?_ | refine Below.trans ?_ (Below.mono (by assumption) (by first | (simp; done) | (simp; omega) | omega)))))).mono ?_
  rintro e w3 ⟨v, rfl, hi, hb3⟩
  have hz3 := hb3.size
  (try simp at hz3)
  have bb3 : Below w2.heap.size w2 w3 := (by repeat (first | exact Below.refl _ _ | assumption | refine below_drewN ?_ _ | refine Below.setCell ?_ (by first | (simp; done) | (simp; omega)) _ | refine Below.alloc ?_ (by first | (simp; done) | (simp; omega) | omega) _ | refine Below.drew ?_ | refine Below.trans ?_ (Below.mono (by assumption) (by first | (simp; done) | (simp; omega) | omega))))
  have be3 : Below w.heap.size w w3 := BE2.out.trans (bb3.mono BE2.out.size)
  have hch3 := HCH2.out.below bb3
  have c3_z_0 : w3.cell? ⟨w.heap.size, 0, none⟩ = some (.int .i64 o) := cell_keep bb3 c2_z_0
  have c3_z_1 : w3.cell? ⟨w.heap.size, 1, none⟩ = some (.slice p cs.length cap) := cell_keep bb3 c2_z_1
  have l3_z : w.heap.size < w3.heap.size := by omega
  have m3_z : w.heap.size < w3.heap.size + 1 := by omega
  rw [HI.out] at hi
  obtain ⟨q, cap2, rfl, hi⟩ := hi
  obtain ⟨g, rfl, hj⟩ := hi.resolve_left (by simp)
  have c3_x_0 : w3.cell? ⟨g, 0, none⟩ = some (.int .i64 x) := hj 0 (by simp)
  have c3_x_1 : w3.cell? ⟨g, 1, none⟩ = some (.int .i64 y) := hj 1 (by simp)
  have l3_x : g < w3.heap.size := Same.lt_of_cell c3_x_0
  have m3_x : g < w3.heap.size + 1 := by omega
  clear hi hj
  simp only [List.length_cons, List.length_nil, Nat.zero_add, Nat.reduceAdd]
  have BE3 := Lib.hid be3
  have HCH3 := Lib.hid hch3
  clear be3 hch3 bb3 hb3 BE2 HCH2 c2_z_0 c2_z_1 l2_z m2_z
  go_wp2_with fail
  refine (instant_calls o p cs cap d m true _ (HCH3.out.below (by repeat (first | exact Below.refl _ _ | assumption | refine below_drewN ?_ _ | refine Below.setCell ?_ (by first | (simp; done) | (simp; omega)) _ | refine Below.alloc ?_ (by first | (simp; done) | (simp; omega) | omega) _ | refine Below.drew ?_ | refine Below.trans ?_ (Below.mono (by assumption) (by first | (simp; done) | (simp; omega) | omega)))))).mono ?_
  rintro e w4 ⟨rfl, hb4⟩
  rw [HT.out, R2]
  have hz4 := hb4.size
  (try simp at hz4)
  have bb4 : Below w3.heap.size w3 w4 := (by repeat (first | exact Below.refl _ _ | assumption | refine below_drewN ?_ _ | refine Below.setCell ?_ (by first | (simp; done) | (simp; omega)) _ | refine Below.alloc ?_ (by first | (simp; done) | (simp; omega) | omega) _ | refine Below.drew ?_ | refine Below.trans ?_ (Below.mono (by assumption) (by first | (simp; done) | (simp; omega) | omega))))
  have be4 : Below w.heap.size w w4 := BE3.out.trans (bb4.mono BE3.out.size)
  have hch4 := HCH3.out.below bb4
  have c4_z_0 : w4.cell? ⟨w.heap.size, 0, none⟩ = some (.int .i64 o) := cell_keep bb4 c3_z_0
  have c4_z_1 : w4.cell? ⟨w.heap.size, 1, none⟩ = some (.slice p cs.length cap) := cell_keep bb4 c3_z_1
  have l4_z : w.heap.size < w4.heap.size := by omega
  have m4_z : w.heap.size < w4.heap.size + 1 := by omega
  have c4_x_0 : w4.cell? ⟨g, 0, none⟩ = some (.int .i64 x) := cell_keep bb4 c3_x_0
  have c4_x_1 : w4.cell? ⟨g, 1, none⟩ = some (.int .i64 y) := cell_keep bb4 c3_x_1
  have l4_x : g < w4.heap.size := by omega
  have m4_x : g < w4.heap.size + 1 := by omega
  have BE4 := Lib.hid be4
  have HCH4 := Lib.hid hch4
  clear be4 hch4 bb4 hb4 BE3 HCH3 c3_z_0 c3_z_1 l3_z m3_z c3_x_0 c3_x_1 l3_x m3_x
  go_wp2_with fail
  go_ret
  exact ⟨rfl, by have q := BE4.out; repeat (first | exact q | refine Below.alloc ?_ (by first | omega | (simp; omega)) _ | refine below_drewN ?_ _ | refine Below.drew ?_)⟩
set_option maxRecDepth 100000 in
set_option maxHeartbeats 1600000 in
theorem skipped_err (o : Int) (p : Option Addr) (cs : List (Int × Int)) (cap : Nat) (r s d m e : Int) (later : Bool) (w : World) (hcg : Chg w p cs) (h0 : 0 ≤ r) (h1 : r ≤ 4294967295) (h2 : 0 ≤ s) (h3 : s ≤ 65535) (hd : r % 73049 = d) (hm : s % 1440 = m) (hn : cs.length ≤ 100) (hi : Zn.instS o cs d m = []) (ht : Zn.instantS o cs d m later = (0, e)) (he : (e == 0) = false) :
    Calls Try.prog 5 #[.agg #[.int .i64 o, .slice p cs.length cap], .int .u32 r, .int .u16 s, .bool later] w fun e w' => e = .returned (.bool true) ∧ Below w.heap.size w w' := by
  have HCH0 := Lib.hid hcg
  have HD := Lib.hid hd
  have HM := Lib.hid hm
  clear hcg hd hm
  have HI := Lib.hid hi
  have HT := Lib.hid ht
  clear hi ht
  go_enter Try.func5, Try.ntmps5
  go_wp2_with fail
  refine (head_any _).mono ?_
  rintro e w1 ⟨rfl, hb1⟩
  have hz1 := hb1.size
  (try simp at hz1)
  have bb1 : Below w.heap.size w w1 := (by repeat (first | exact Below.refl _ _ | assumption | refine below_drewN ?_ _ | refine Below.setCell ?_ (by first | (simp; done) | (simp; omega)) _ | refine Below.alloc ?_ (by first | (simp; done) | (simp; omega) | omega) _ | refine Below.drew ?_ | refine Below.trans ?_ (Below.mono (by assumption) (by first | (simp; done) | (simp; omega) | omega))))
  have be1 : Below w.heap.size w w1 := bb1
  have hch1 := HCH0.out.below bb1
  have c1_z_0 : w1.cell? ⟨w.heap.size, 0, none⟩ = some (.int .i64 o) := cell_keep hb1 (by go_simp)
  have c1_z_1 : w1.cell? ⟨w.heap.size, 1, none⟩ = some (.slice p cs.length cap) := cell_keep hb1 (by go_simp)
  have l1_z : w.heap.size < w1.heap.size := by omega
  have m1_z : w.heap.size < w1.heap.size + 1 := by omega
  have BE1 := Lib.hid be1
  have HCH1 := Lib.hid hch1
  clear be1 hch1 bb1 hb1 HCH0
  go_wp2_with fail
  refine (few_yes o p cs cap _ hn).mono ?_
  rintro e w2 ⟨rfl, hb2⟩
  have hz2 := hb2.size
  (try simp at hz2)
  have bb2 : Below w1.heap.size w1 w2 := (by repeat (first | exact Below.refl _ _ | assumption | refine below_drewN ?_ _ | refine Below.setCell ?_ (by first | (simp; done) | (simp; omega)) _ | refine Below.alloc ?_ (by first | (simp; done) | (simp; omega) | omega) _ | refine Below.drew ?_ | refine Below.trans ?_ (Below.mono (by assumption) (by first | (simp; done) | (simp; omega) | omega))))
  have be2 : Below w.heap.size w w2 := BE1.out.trans (bb2.mono BE1.out.size)
  have hch2 := HCH1.out.below bb2
  have c2_z_0 : w2.cell? ⟨w.heap.size, 0, none⟩ = some (.int .i64 o) := cell_keep bb2 c1_z_0
  have c2_z_1 : w2.cell? ⟨w.heap.size, 1, none⟩ = some (.slice p cs.length cap) := cell_keep bb2 c1_z_1
  have l2_z : w.heap.size < w2.heap.size := by omega
  have m2_z : w.heap.size < w2.heap.size + 1 := by omega
  have BE2 := Lib.hid be2
  have HCH2 := Lib.hid hch2
  clear be2 hch2 bb2 hb2 BE1 HCH1 c1_z_0 c1_z_1 l1_z m1_z
  go_wp2_with fail
  simp only [HD.out, HM.out]
  refine (instants_calls o p cs cap d m _ (HCH2.out.below (by repeat (first | exact Below.refl _ _ | assumption | refine below_drewN ?_ _ | refine Below.setCell ?_ (by first | (simp; done) | (simp; omega)) _ | refine Below.alloc ?_ (by first | (simp; done) | (simp; omega) | omega) _ | refine Below.drew ?_ | refine Below.trans ?_ (Below.mono (by assumption) (by first | (simp; done) | (simp; omega) | omega)))))).mono ?_
  rintro e w3 ⟨v, rfl, hi, hb3⟩
  have hz3 := hb3.size
  (try simp at hz3)
  have bb3 : Below w2.heap.size w2 w3 := (by repeat (first | exact Below.refl _ _ | assumption | refine below_drewN ?_ _ | refine Below.setCell ?_ (by first | (simp; done) | (simp; omega)) _ | refine Below.alloc ?_ (by first | (simp; done) | (simp; omega) | omega) _ | refine Below.drew ?_ | refine Below.trans ?_ (Below.mono (by assumption) (by first | (simp; done) | (simp; omega) | omega))))
  have be3 : Below w.heap.size w w3 := BE2.out.trans (bb3.mono BE2.out.size)
  have hch3 := HCH2.out.below bb3
  have c3_z_0 : w3.cell? ⟨w.heap.size, 0, none⟩ = some (.int .i64 o) := cell_keep bb3 c2_z_0
  have c3_z_1 : w3.cell? ⟨w.heap.size, 1, none⟩ = some (.slice p cs.length cap) := cell_keep bb3 c2_z_1
  have l3_z : w.heap.size < w3.heap.size := by omega
  have m3_z : w.heap.size < w3.heap.size + 1 := by omega
  rw [HI.out] at hi
  obtain ⟨q, cap2, rfl, hi⟩ := hi
  clear hi
  simp only [List.length_nil]
  have BE3 := Lib.hid be3
  have HCH3 := Lib.hid hch3
  clear be3 hch3 bb3 hb3 BE2 HCH2 c2_z_0 c2_z_1 l2_z m2_z
  go_wp2_with fail
  refine (instant_calls o p cs cap d m later _ (HCH3.out.below (by repeat (first | exact Below.refl _ _ | assumption | refine below_drewN ?_ _ | refine Below.setCell ?_ (by first | (simp; done) | (simp; omega)) _ | refine Below.alloc ?_ (by first | (simp; done) | (simp; omega) | omega) _ | refine Below.drew ?_ | refine Below.trans ?_ (Below.mono (by assumption) (by first | (simp; done) | (simp; omega) | omega)))))).mono ?_
  rintro e w4 ⟨rfl, hb4⟩
  rw [HT.out, R2]
  have hz4 := hb4.size
  (try simp at hz4)
  have bb4 : Below w3.heap.size w3 w4 := (by repeat (first | exact Below.refl _ _ | assumption | refine below_drewN ?_ _ | refine Below.setCell ?_ (by first | (simp; done) | (simp; omega)) _ | refine Below.alloc ?_ (by first | (simp; done) | (simp; omega) | omega) _ | refine Below.drew ?_ | refine Below.trans ?_ (Below.mono (by assumption) (by first | (simp; done) | (simp; omega) | omega))))
  have be4 : Below w.heap.size w w4 := BE3.out.trans (bb4.mono BE3.out.size)
  have hch4 := HCH3.out.below bb4
  have c4_z_0 : w4.cell? ⟨w.heap.size, 0, none⟩ = some (.int .i64 o) := cell_keep bb4 c3_z_0
  have c4_z_1 : w4.cell? ⟨w.heap.size, 1, none⟩ = some (.slice p cs.length cap) := cell_keep bb4 c3_z_1
  have l4_z : w.heap.size < w4.heap.size := by omega
  have m4_z : w.heap.size < w4.heap.size + 1 := by omega
  have BE4 := Lib.hid be4
  have HCH4 := Lib.hid hch4
  clear be4 hch4 bb4 hb4 BE3 HCH3 c3_z_0 c3_z_1 l3_z m3_z
  go_wp2_with fail
  go_ret
  exact ⟨rfl, by have q := BE4.out; repeat (first | exact q | refine Below.alloc ?_ (by first | omega | (simp; omega)) _ | refine below_drewN ?_ _ | refine Below.drew ?_)⟩
set_option maxRecDepth 100000 in
set_option maxHeartbeats 1600000 in
theorem skipped_00 (o : Int) (p : Option Addr) (cs : List (Int × Int)) (cap : Nat) (r s d m t a b c g : Int) (later : Bool) (w : World) (hcg : Chg w p cs) (h0 : 0 ≤ r) (h1 : r ≤ 4294967295) (h2 : 0 ≤ s) (h3 : s ≤ 65535) (hd : r % 73049 = d) (hm : s % 1440 = m) (hn : cs.length ≤ 100) (hi : Zn.instS o cs d m = []) (ht : Zn.instantS o cs d m later = (t, 0)) (ht0 : 5760 < t) (ht1 : t ≤ 105190559) (ha : Zn.localS o cs t = (a, b, 0)) (ha0 : 0 ≤ a) (ha1 : a ≤ 73048) (hb0 : 0 ≤ b) (hb1 : b ≤ 1439) (hlt : d * 1440 + m < a * 1440 + b) (hb : Zn.localS o cs (t - 1) = (c, g, 0)) (hc0 : 0 ≤ c) (hc1 : c ≤ 73048) (hg0 : 0 ≤ g) (hg1 : g ≤ 1439) (hgt : c * 1440 + g < d * 1440 + m) :
    Calls Try.prog 5 #[.agg #[.int .i64 o, .slice p cs.length cap], .int .u32 r, .int .u16 s, .bool later] w fun e w' => e = .returned (.bool true) ∧ Below w.heap.size w w' := by
  have wt : wrap64 (t - 1) = t - 1 := by unfold wrap64; omega
  have wd : wrap64 (d * 1440) = d * 1440 := by unfold wrap64; omega
  have wm : wrap64 (d * 1440 + m) = d * 1440 + m := by unfold wrap64; omega
  have HCH0 := Lib.hid hcg
  have HD := Lib.hid hd
  have HM := Lib.hid hm
  clear hcg hd hm
  have HI := Lib.hid hi
  have HT := Lib.hid ht
  clear hi ht
  have wa : wrap64 (a * 1440) = a * 1440 := by unfold wrap64; omega
  have wb : wrap64 (a * 1440 + b) = a * 1440 + b := by unfold wrap64; omega
  have wc : wrap64 (c * 1440) = c * 1440 := by unfold wrap64; omega
  have wg : wrap64 (c * 1440 + g) = c * 1440 + g := by unfold wrap64; omega
  have HA := Lib.hid ha
  have HB := Lib.hid hb
  clear ha hb
  go_enter Try.func5, Try.ntmps5
  go_wp2_with fail
  refine (head_any _).mono ?_
  rintro e w1 ⟨rfl, hb1⟩
  have hz1 := hb1.size
  (try simp at hz1)
  have bb1 : Below w.heap.size w w1 := (by repeat (first | exact Below.refl _ _ | assumption | refine below_drewN ?_ _ | refine Below.setCell ?_ (by first | (simp; done) | (simp; omega)) _ | refine Below.alloc ?_ (by first | (simp; done) | (simp; omega) | omega) _ | refine Below.drew ?_ | refine Below.trans ?_ (Below.mono (by assumption) (by first | (simp; done) | (simp; omega) | omega))))
  have be1 : Below w.heap.size w w1 := bb1
  have hch1 := HCH0.out.below bb1
  have c1_z_0 : w1.cell? ⟨w.heap.size, 0, none⟩ = some (.int .i64 o) := cell_keep hb1 (by go_simp)
  have c1_z_1 : w1.cell? ⟨w.heap.size, 1, none⟩ = some (.slice p cs.length cap) := cell_keep hb1 (by go_simp)
  have l1_z : w.heap.size < w1.heap.size := by omega
  have m1_z : w.heap.size < w1.heap.size + 1 := by omega
  have BE1 := Lib.hid be1
  have HCH1 := Lib.hid hch1
  clear be1 hch1 bb1 hb1 HCH0
  go_wp2_with fail
  refine (few_yes o p cs cap _ hn).mono ?_
  rintro e w2 ⟨rfl, hb2⟩
  have hz2 := hb2.size
  (try simp at hz2)
  have bb2 : Below w1.heap.size w1 w2 := (by repeat (first | exact Below.refl _ _ | assumption | refine below_drewN ?_ _ | refine Below.setCell ?_ (by first | (simp; done) | (simp; omega)) _ | refine Below.alloc ?_ (by first | (simp; done) | (simp; omega) | omega) _ | refine Below.drew ?_ | refine Below.trans ?_ (Below.mono (by assumption) (by first | (simp; done) | (simp; omega) | omega))))
  have be2 : Below w.heap.size w w2 := BE1.out.trans (bb2.mono BE1.out.size)
  have hch2 := HCH1.out.below bb2
  have c2_z_0 : w2.cell? ⟨w.heap.size, 0, none⟩ = some (.int .i64 o) := cell_keep bb2 c1_z_0
  have c2_z_1 : w2.cell? ⟨w.heap.size, 1, none⟩ = some (.slice p cs.length cap) := cell_keep bb2 c1_z_1
  have l2_z : w.heap.size < w2.heap.size := by omega
  have m2_z : w.heap.size < w2.heap.size + 1 := by omega
  have BE2 := Lib.hid be2
  have HCH2 := Lib.hid hch2
  clear be2 hch2 bb2 hb2 BE1 HCH1 c1_z_0 c1_z_1 l1_z m1_z
  go_wp2_with fail
  simp only [HD.out, HM.out]
  refine (instants_calls o p cs cap d m _ (HCH2.out.below (by repeat (first | exact Below.refl _ _ | assumption | refine below_drewN ?_ _ | refine Below.setCell ?_ (by first | (simp; done) | (simp; omega)) _ | refine Below.alloc ?_ (by first | (simp; done) | (simp; omega) | omega) _ | refine Below.drew ?_ | refine Below.trans ?_ (Below.mono (by assumption) (by first | (simp; done) | (simp; omega) | omega)))))).mono ?_
  rintro e w3 ⟨v, rfl, hi, hb3⟩
  have hz3 := hb3.size
  (try simp at hz3)
  have bb3 : Below w2.heap.size w2 w3 := (by repeat (first | exact Below.refl _ _ | assumption | refine below_drewN ?_ _ | refine Below.setCell ?_ (by first | (simp; done) | (simp; omega)) _ | refine Below.alloc ?_ (by first | (simp; done) | (simp; omega) | omega) _ | refine Below.drew ?_ | refine Below.trans ?_ (Below.mono (by assumption) (by first | (simp; done) | (simp; omega) | omega))))
  have be3 : Below w.heap.size w w3 := BE2.out.trans (bb3.mono BE2.out.size)
  have hch3 := HCH2.out.below bb3
  have c3_z_0 : w3.cell? ⟨w.heap.size, 0, none⟩ = some (.int .i64 o) := cell_keep bb3 c2_z_0
  have c3_z_1 : w3.cell? ⟨w.heap.size, 1, none⟩ = some (.slice p cs.length cap) := cell_keep bb3 c2_z_1
  have l3_z : w.heap.size < w3.heap.size := by omega
  have m3_z : w.heap.size < w3.heap.size + 1 := by omega
  rw [HI.out] at hi
  obtain ⟨q, cap2, rfl, hi⟩ := hi
  clear hi
  simp only [List.length_nil]
  have BE3 := Lib.hid be3
  have HCH3 := Lib.hid hch3
  clear be3 hch3 bb3 hb3 BE2 HCH2 c2_z_0 c2_z_1 l2_z m2_z
  go_wp2_with fail
  refine (instant_calls o p cs cap d m later _ (HCH3.out.below (by repeat (first | exact Below.refl _ _ | assumption | refine below_drewN ?_ _ | refine Below.setCell ?_ (by first | (simp; done) | (simp; omega)) _ | refine Below.alloc ?_ (by first | (simp; done) | (simp; omega) | omega) _ | refine Below.drew ?_ | refine Below.trans ?_ (Below.mono (by assumption) (by first | (simp; done) | (simp; omega) | omega)))))).mono ?_
  rintro e w4 ⟨rfl, hb4⟩
  rw [HT.out, R2]
  have hz4 := hb4.size
  (try simp at hz4)
  have bb4 : Below w3.heap.size w3 w4 := (by repeat (first | exact Below.refl _ _ | assumption | refine below_drewN ?_ _ | refine Below.setCell ?_ (by first | (simp; done) | (simp; omega)) _ | refine Below.alloc ?_ (by first | (simp; done) | (simp; omega) | omega) _ | refine Below.drew ?_ | refine Below.trans ?_ (Below.mono (by assumption) (by first | (simp; done) | (simp; omega) | omega))))
  have be4 : Below w.heap.size w w4 := BE3.out.trans (bb4.mono BE3.out.size)
  have hch4 := HCH3.out.below bb4
  have c4_z_0 : w4.cell? ⟨w.heap.size, 0, none⟩ = some (.int .i64 o) := cell_keep bb4 c3_z_0
  have c4_z_1 : w4.cell? ⟨w.heap.size, 1, none⟩ = some (.slice p cs.length cap) := cell_keep bb4 c3_z_1
  have l4_z : w.heap.size < w4.heap.size := by omega
  have m4_z : w.heap.size < w4.heap.size + 1 := by omega
  have BE4 := Lib.hid be4
  have HCH4 := Lib.hid hch4
  clear be4 hch4 bb4 hb4 BE3 HCH3 c3_z_0 c3_z_1 l3_z m3_z
  go_wp2_with fail
  refine (local_calls o p cs cap t _ (HCH4.out.below (by repeat (first | exact Below.refl _ _ | assumption | refine below_drewN ?_ _ | refine Below.setCell ?_ (by first | (simp; done) | (simp; omega)) _ | refine Below.alloc ?_ (by first | (simp; done) | (simp; omega) | omega) _ | refine Below.drew ?_ | refine Below.trans ?_ (Below.mono (by assumption) (by first | (simp; done) | (simp; omega) | omega)))))).mono ?_
  rintro e w5 ⟨rfl, hb5⟩
  rw [HA.out, R3]
  have hz5 := hb5.size
  (try simp at hz5)
  have bb5 : Below w4.heap.size w4 w5 := (by repeat (first | exact Below.refl _ _ | assumption | refine below_drewN ?_ _ | refine Below.setCell ?_ (by first | (simp; done) | (simp; omega)) _ | refine Below.alloc ?_ (by first | (simp; done) | (simp; omega) | omega) _ | refine Below.drew ?_ | refine Below.trans ?_ (Below.mono (by assumption) (by first | (simp; done) | (simp; omega) | omega))))
  have be5 : Below w.heap.size w w5 := BE4.out.trans (bb5.mono BE4.out.size)
  have hch5 := HCH4.out.below bb5
  have c5_z_0 : w5.cell? ⟨w.heap.size, 0, none⟩ = some (.int .i64 o) := cell_keep bb5 c4_z_0
  have c5_z_1 : w5.cell? ⟨w.heap.size, 1, none⟩ = some (.slice p cs.length cap) := cell_keep bb5 c4_z_1
  have l5_z : w.heap.size < w5.heap.size := by omega
  have m5_z : w.heap.size < w5.heap.size + 1 := by omega
  have BE5 := Lib.hid be5
  have HCH5 := Lib.hid hch5
  clear be5 hch5 bb5 hb5 BE4 HCH4 c4_z_0 c4_z_1 l4_z m4_z
  go_wp2_with fail
  refine (local_calls o p cs cap (t - 1) _ (HCH5.out.below (by repeat (first | exact Below.refl _ _ | assumption | refine below_drewN ?_ _ | refine Below.setCell ?_ (by first | (simp; done) | (simp; omega)) _ | refine Below.alloc ?_ (by first | (simp; done) | (simp; omega) | omega) _ | refine Below.drew ?_ | refine Below.trans ?_ (Below.mono (by assumption) (by first | (simp; done) | (simp; omega) | omega)))))).mono ?_
  rintro e w6 ⟨rfl, hb6⟩
  rw [HB.out, R3]
  have hz6 := hb6.size
  (try simp at hz6)
  have bb6 : Below w5.heap.size w5 w6 := (by repeat (first | exact Below.refl _ _ | assumption | refine below_drewN ?_ _ | refine Below.setCell ?_ (by first | (simp; done) | (simp; omega)) _ | refine Below.alloc ?_ (by first | (simp; done) | (simp; omega) | omega) _ | refine Below.drew ?_ | refine Below.trans ?_ (Below.mono (by assumption) (by first | (simp; done) | (simp; omega) | omega))))
  have be6 : Below w.heap.size w w6 := BE5.out.trans (bb6.mono BE5.out.size)
  have hch6 := HCH5.out.below bb6
  have c6_z_0 : w6.cell? ⟨w.heap.size, 0, none⟩ = some (.int .i64 o) := cell_keep bb6 c5_z_0
  have c6_z_1 : w6.cell? ⟨w.heap.size, 1, none⟩ = some (.slice p cs.length cap) := cell_keep bb6 c5_z_1
  have l6_z : w.heap.size < w6.heap.size := by omega
  have m6_z : w.heap.size < w6.heap.size + 1 := by omega
  have BE6 := Lib.hid be6
  have HCH6 := Lib.hid hch6
  clear be6 hch6 bb6 hb6 BE5 HCH5 c5_z_0 c5_z_1 l5_z m5_z
  go_wp2_with fail
  go_ret
  exact ⟨by first | rfl | exact ret_bool (decide_eq_true (by omega)) | (refine ret_bool ?_; simp; omega), by have q := BE6.out; repeat (first | exact q | refine Below.alloc ?_ (by first | omega | (simp; omega)) _ | refine below_drewN ?_ _ | refine Below.drew ?_)⟩
set_option maxRecDepth 100000 in
set_option maxHeartbeats 1600000 in
theorem skipped_02 (o : Int) (p : Option Addr) (cs : List (Int × Int)) (cap : Nat) (r s d m t a b : Int) (later : Bool) (w : World) (hcg : Chg w p cs) (h0 : 0 ≤ r) (h1 : r ≤ 4294967295) (h2 : 0 ≤ s) (h3 : s ≤ 65535) (hd : r % 73049 = d) (hm : s % 1440 = m) (hn : cs.length ≤ 100) (hi : Zn.instS o cs d m = []) (ht : Zn.instantS o cs d m later = (t, 0)) (ht0 : 5760 < t) (ht1 : t ≤ 105190559) (ha : Zn.localS o cs t = (a, b, 0)) (ha0 : 0 ≤ a) (ha1 : a ≤ 73048) (hb0 : 0 ≤ b) (hb1 : b ≤ 1439) (hlt : d * 1440 + m < a * 1440 + b) (hb : Zn.localS o cs (t - 1) = (0, 0, 2)) :
    Calls Try.prog 5 #[.agg #[.int .i64 o, .slice p cs.length cap], .int .u32 r, .int .u16 s, .bool later] w fun e w' => e = .returned (.bool true) ∧ Below w.heap.size w w' := by
  have wt : wrap64 (t - 1) = t - 1 := by unfold wrap64; omega
  have wd : wrap64 (d * 1440) = d * 1440 := by unfold wrap64; omega
  have wm : wrap64 (d * 1440 + m) = d * 1440 + m := by unfold wrap64; omega
  have HCH0 := Lib.hid hcg
  have HD := Lib.hid hd
  have HM := Lib.hid hm
  clear hcg hd hm
  have HI := Lib.hid hi
  have HT := Lib.hid ht
  clear hi ht
  have wa : wrap64 (a * 1440) = a * 1440 := by unfold wrap64; omega
  have wb : wrap64 (a * 1440 + b) = a * 1440 + b := by unfold wrap64; omega
  have HA := Lib.hid ha
  have HB := Lib.hid hb
  clear ha hb
  go_enter Try.func5, Try.ntmps5
  go_wp2_with fail
  refine (head_any _).mono ?_
  rintro e w1 ⟨rfl, hb1⟩
  have hz1 := hb1.size
  (try simp at hz1)
  have bb1 : Below w.heap.size w w1 := (by repeat (first | exact Below.refl _ _ | assumption | refine below_drewN ?_ _ | refine Below.setCell ?_ (by first | (simp; done) | (simp; omega)) _ | refine Below.alloc ?_ (by first | (simp; done) | (simp; omega) | omega) _ | refine Below.drew ?_ | refine Below.trans ?_ (Below.mono (by assumption) (by first | (simp; done) | (simp; omega) | omega))))
  have be1 : Below w.heap.size w w1 := bb1
  have hch1 := HCH0.out.below bb1
  have c1_z_0 : w1.cell? ⟨w.heap.size, 0, none⟩ = some (.int .i64 o) := cell_keep hb1 (by go_simp)
  have c1_z_1 : w1.cell? ⟨w.heap.size, 1, none⟩ = some (.slice p cs.length cap) := cell_keep hb1 (by go_simp)
  have l1_z : w.heap.size < w1.heap.size := by omega
  have m1_z : w.heap.size < w1.heap.size + 1 := by omega
  have BE1 := Lib.hid be1
  have HCH1 := Lib.hid hch1
  clear be1 hch1 bb1 hb1 HCH0
  go_wp2_with fail
  refine (few_yes o p cs cap _ hn).mono ?_
  rintro e w2 ⟨rfl, hb2⟩
  have hz2 := hb2.size
  (try simp at hz2)
  have bb2 : Below w1.heap.size w1 w2 := (by repeat (first | exact Below.refl _ _ | assumption | refine below_drewN ?_ _ | refine Below.setCell ?_ (by first | (simp; done) | (simp; omega)) _ | refine Below.alloc ?_ (by first | (simp; done) | (simp; omega) | omega) _ | refine Below.drew ?_ | refine Below.trans ?_ (Below.mono (by assumption) (by first | (simp; done) | (simp; omega) | omega))))
  have be2 : Below w.heap.size w w2 := BE1.out.trans (bb2.mono BE1.out.size)
  have hch2 := HCH1.out.below bb2
  have c2_z_0 : w2.cell? ⟨w.heap.size, 0, none⟩ = some (.int .i64 o) := cell_keep bb2 c1_z_0
  have c2_z_1 : w2.cell? ⟨w.heap.size, 1, none⟩ = some (.slice p cs.length cap) := cell_keep bb2 c1_z_1
  have l2_z : w.heap.size < w2.heap.size := by omega
  have m2_z : w.heap.size < w2.heap.size + 1 := by omega
  have BE2 := Lib.hid be2
  have HCH2 := Lib.hid hch2
  clear be2 hch2 bb2 hb2 BE1 HCH1 c1_z_0 c1_z_1 l1_z m1_z
  go_wp2_with fail
  simp only [HD.out, HM.out]
  refine (instants_calls o p cs cap d m _ (HCH2.out.below (by repeat (first | exact Below.refl _ _ | assumption | refine below_drewN ?_ _ | refine Below.setCell ?_ (by first | (simp; done) | (simp; omega)) _ | refine Below.alloc ?_ (by first | (simp; done) | (simp; omega) | omega) _ | refine Below.drew ?_ | refine Below.trans ?_ (Below.mono (by assumption) (by first | (simp; done) | (simp; omega) | omega)))))).mono ?_
  rintro e w3 ⟨v, rfl, hi, hb3⟩
  have hz3 := hb3.size
  (try simp at hz3)
  have bb3 : Below w2.heap.size w2 w3 := (by repeat (first | exact Below.refl _ _ | assumption | refine below_drewN ?_ _ | refine Below.setCell ?_ (by first | (simp; done) | (simp; omega)) _ | refine Below.alloc ?_ (by first | (simp; done) | (simp; omega) | omega) _ | refine Below.drew ?_ | refine Below.trans ?_ (Below.mono (by assumption) (by first | (simp; done) | (simp; omega) | omega))))
  have be3 : Below w.heap.size w w3 := BE2.out.trans (bb3.mono BE2.out.size)
  have hch3 := HCH2.out.below bb3
  have c3_z_0 : w3.cell? ⟨w.heap.size, 0, none⟩ = some (.int .i64 o) := cell_keep bb3 c2_z_0
  have c3_z_1 : w3.cell? ⟨w.heap.size, 1, none⟩ = some (.slice p cs.length cap) := cell_keep bb3 c2_z_1
  have l3_z : w.heap.size < w3.heap.size := by omega
  have m3_z : w.heap.size < w3.heap.size + 1 := by omega
  rw [HI.out] at hi
  obtain ⟨q, cap2, rfl, hi⟩ := hi
  clear hi
  simp only [List.length_nil]
  have BE3 := Lib.hid be3
  have HCH3 := Lib.hid hch3
  clear be3 hch3 bb3 hb3 BE2 HCH2 c2_z_0 c2_z_1 l2_z m2_z
  go_wp2_with fail
  refine (instant_calls o p cs cap d m later _ (HCH3.out.below (by repeat (first | exact Below.refl _ _ | assumption | refine below_drewN ?_ _ | refine Below.setCell ?_ (by first | (simp; done) | (simp; omega)) _ | refine Below.alloc ?_ (by first | (simp; done) | (simp; omega) | omega) _ | refine Below.drew ?_ | refine Below.trans ?_ (Below.mono (by assumption) (by first | (simp; done) | (simp; omega) | omega)))))).mono ?_
  rintro e w4 ⟨rfl, hb4⟩
  rw [HT.out, R2]
  have hz4 := hb4.size
  (try simp at hz4)
  have bb4 : Below w3.heap.size w3 w4 := (by repeat (first | exact Below.refl _ _ | assumption | refine below_drewN ?_ _ | refine Below.setCell ?_ (by first | (simp; done) | (simp; omega)) _ | refine Below.alloc ?_ (by first | (simp; done) | (simp; omega) | omega) _ | refine Below.drew ?_ | refine Below.trans ?_ (Below.mono (by assumption) (by first | (simp; done) | (simp; omega) | omega))))
  have be4 : Below w.heap.size w w4 := BE3.out.trans (bb4.mono BE3.out.size)
  have hch4 := HCH3.out.below bb4
  have c4_z_0 : w4.cell? ⟨w.heap.size, 0, none⟩ = some (.int .i64 o) := cell_keep bb4 c3_z_0
  have c4_z_1 : w4.cell? ⟨w.heap.size, 1, none⟩ = some (.slice p cs.length cap) := cell_keep bb4 c3_z_1
  have l4_z : w.heap.size < w4.heap.size := by omega
  have m4_z : w.heap.size < w4.heap.size + 1 := by omega
  have BE4 := Lib.hid be4
  have HCH4 := Lib.hid hch4
  clear be4 hch4 bb4 hb4 BE3 HCH3 c3_z_0 c3_z_1 l3_z m3_z
  go_wp2_with fail
  refine (local_calls o p cs cap t _ (HCH4.out.below (by repeat (first | exact Below.refl _ _ | assumption | refine below_drewN ?_ _ | refine Below.setCell ?_ (by first | (simp; done) | (simp; omega)) _ | refine Below.alloc ?_ (by first | (simp; done) | (simp; omega) | omega) _ | refine Below.drew ?_ | refine Below.trans ?_ (Below.mono (by assumption) (by first | (simp; done) | (simp; omega) | omega)))))).mono ?_
  rintro e w5 ⟨rfl, hb5⟩
  rw [HA.out, R3]
  have hz5 := hb5.size
  (try simp at hz5)
  have bb5 : Below w4.heap.size w4 w5 := (by repeat (first | exact Below.refl _ _ | assumption | refine below_drewN ?_ _ | refine Below.setCell ?_ (by first | (simp; done) | (simp; omega)) _ | refine Below.alloc ?_ (by first | (simp; done) | (simp; omega) | omega) _ | refine Below.drew ?_ | refine Below.trans ?_ (Below.mono (by assumption) (by first | (simp; done) | (simp; omega) | omega))))
  have be5 : Below w.heap.size w w5 := BE4.out.trans (bb5.mono BE4.out.size)
  have hch5 := HCH4.out.below bb5
  have c5_z_0 : w5.cell? ⟨w.heap.size, 0, none⟩ = some (.int .i64 o) := cell_keep bb5 c4_z_0
  have c5_z_1 : w5.cell? ⟨w.heap.size, 1, none⟩ = some (.slice p cs.length cap) := cell_keep bb5 c4_z_1
  have l5_z : w.heap.size < w5.heap.size := by omega
  have m5_z : w.heap.size < w5.heap.size + 1 := by omega
  have BE5 := Lib.hid be5
  have HCH5 := Lib.hid hch5
  clear be5 hch5 bb5 hb5 BE4 HCH4 c4_z_0 c4_z_1 l4_z m4_z
  go_wp2_with fail
  refine (local_calls o p cs cap (t - 1) _ (HCH5.out.below (by repeat (first | exact Below.refl _ _ | assumption | refine below_drewN ?_ _ | refine Below.setCell ?_ (by first | (simp; done) | (simp; omega)) _ | refine Below.alloc ?_ (by first | (simp; done) | (simp; omega) | omega) _ | refine Below.drew ?_ | refine Below.trans ?_ (Below.mono (by assumption) (by first | (simp; done) | (simp; omega) | omega)))))).mono ?_
  rintro e w6 ⟨rfl, hb6⟩
  rw [HB.out, R3]
  have hz6 := hb6.size
  (try simp at hz6)
  have bb6 : Below w5.heap.size w5 w6 := (by repeat (first | exact Below.refl _ _ | assumption | refine below_drewN ?_ _ | refine Below.setCell ?_ (by first | (simp; done) | (simp; omega)) _ | refine Below.alloc ?_ (by first | (simp; done) | (simp; omega) | omega) _ | refine Below.drew ?_ | refine Below.trans ?_ (Below.mono (by assumption) (by first | (simp; done) | (simp; omega) | omega))))
  have be6 : Below w.heap.size w w6 := BE5.out.trans (bb6.mono BE5.out.size)
  have hch6 := HCH5.out.below bb6
  have c6_z_0 : w6.cell? ⟨w.heap.size, 0, none⟩ = some (.int .i64 o) := cell_keep bb6 c5_z_0
  have c6_z_1 : w6.cell? ⟨w.heap.size, 1, none⟩ = some (.slice p cs.length cap) := cell_keep bb6 c5_z_1
  have l6_z : w.heap.size < w6.heap.size := by omega
  have m6_z : w.heap.size < w6.heap.size + 1 := by omega
  have BE6 := Lib.hid be6
  have HCH6 := Lib.hid hch6
  clear be6 hch6 bb6 hb6 BE5 HCH5 c5_z_0 c5_z_1 l5_z m5_z
  go_wp2_with fail
  go_ret
  exact ⟨by first | rfl | exact ret_bool (decide_eq_true (by omega)) | (refine ret_bool ?_; simp; omega), by have q := BE6.out; repeat (first | exact q | refine Below.alloc ?_ (by first | omega | (simp; omega)) _ | refine below_drewN ?_ _ | refine Below.drew ?_)⟩
set_option maxRecDepth 100000 in
set_option maxHeartbeats 1600000 in
theorem skipped_20 (o : Int) (p : Option Addr) (cs : List (Int × Int)) (cap : Nat) (r s d m t c g : Int) (later : Bool) (w : World) (hcg : Chg w p cs) (h0 : 0 ≤ r) (h1 : r ≤ 4294967295) (h2 : 0 ≤ s) (h3 : s ≤ 65535) (hd : r % 73049 = d) (hm : s % 1440 = m) (hn : cs.length ≤ 100) (hi : Zn.instS o cs d m = []) (ht : Zn.instantS o cs d m later = (t, 0)) (ht0 : 5760 < t) (ht1 : t ≤ 105190559) (ha : Zn.localS o cs t = (0, 0, 2)) (hb : Zn.localS o cs (t - 1) = (c, g, 0)) (hc0 : 0 ≤ c) (hc1 : c ≤ 73048) (hg0 : 0 ≤ g) (hg1 : g ≤ 1439) (hgt : c * 1440 + g < d * 1440 + m) :
    Calls Try.prog 5 #[.agg #[.int .i64 o, .slice p cs.length cap], .int .u32 r, .int .u16 s, .bool later] w fun e w' => e = .returned (.bool true) ∧ Below w.heap.size w w' := by
  have wt : wrap64 (t - 1) = t - 1 := by unfold wrap64; omega
  have wd : wrap64 (d * 1440) = d * 1440 := by unfold wrap64; omega
  have wm : wrap64 (d * 1440 + m) = d * 1440 + m := by unfold wrap64; omega
  have HCH0 := Lib.hid hcg
  have HD := Lib.hid hd
  have HM := Lib.hid hm
  clear hcg hd hm
  have HI := Lib.hid hi
  have HT := Lib.hid ht
  clear hi ht
  have wc : wrap64 (c * 1440) = c * 1440 := by unfold wrap64; omega
  have wg : wrap64 (c * 1440 + g) = c * 1440 + g := by unfold wrap64; omega
  have HA := Lib.hid ha
  have HB := Lib.hid hb
  clear ha hb
  go_enter Try.func5, Try.ntmps5
  go_wp2_with fail
  refine (head_any _).mono ?_
  rintro e w1 ⟨rfl, hb1⟩
  have hz1 := hb1.size
  (try simp at hz1)
  have bb1 : Below w.heap.size w w1 := (by repeat (first | exact Below.refl _ _ | assumption | refine below_drewN ?_ _ | refine Below.setCell ?_ (by first | (simp; done) | (simp; omega)) _ | refine Below.alloc ?_ (by first | (simp; done) | (simp; omega) | omega) _ | refine Below.drew ?_ | refine Below.trans ?_ (Below.mono (by assumption) (by first | (simp; done) | (simp; omega) | omega))))
  have be1 : Below w.heap.size w w1 := bb1
  have hch1 := HCH0.out.below bb1
  have c1_z_0 : w1.cell? ⟨w.heap.size, 0, none⟩ = some (.int .i64 o) := cell_keep hb1 (by go_simp)
  have c1_z_1 : w1.cell? ⟨w.heap.size, 1, none⟩ = some (.slice p cs.length cap) := cell_keep hb1 (by go_simp)
  have l1_z : w.heap.size < w1.heap.size := by omega
  have m1_z : w.heap.size < w1.heap.size + 1 := by omega
  have BE1 := Lib.hid be1
  have HCH1 := Lib.hid hch1
  clear be1 hch1 bb1 hb1 HCH0
  go_wp2_with fail
  refine (few_yes o p cs cap _ hn).mono ?_
  rintro e w2 ⟨rfl, hb2⟩
  have hz2 := hb2.size
  (try simp at hz2)
  have bb2 : Below w1.heap.size w1 w2 := (by repeat (first | exact Below.refl _ _ | assumption | refine below_drewN ?_ _ | refine Below.setCell ?_ (by first | (simp; done) | (simp; omega)) _ | refine Below.alloc ?_ (by first | (simp; done) | (simp; omega) | omega) _ | refine Below.drew ?_ | refine Below.trans ?_ (Below.mono (by assumption) (by first | (simp; done) | (simp; omega) | omega))))
  have be2 : Below w.heap.size w w2 := BE1.out.trans (bb2.mono BE1.out.size)
  have hch2 := HCH1.out.below bb2
  have c2_z_0 : w2.cell? ⟨w.heap.size, 0, none⟩ = some (.int .i64 o) := cell_keep bb2 c1_z_0
  have c2_z_1 : w2.cell? ⟨w.heap.size, 1, none⟩ = some (.slice p cs.length cap) := cell_keep bb2 c1_z_1
  have l2_z : w.heap.size < w2.heap.size := by omega
  have m2_z : w.heap.size < w2.heap.size + 1 := by omega
  have BE2 := Lib.hid be2
  have HCH2 := Lib.hid hch2
  clear be2 hch2 bb2 hb2 BE1 HCH1 c1_z_0 c1_z_1 l1_z m1_z
  go_wp2_with fail
  simp only [HD.out, HM.out]
  refine (instants_calls o p cs cap d m _ (HCH2.out.below (by repeat (first | exact Below.refl _ _ | assumption | refine below_drewN ?_ _ | refine Below.setCell ?_ (by first | (simp; done) | (simp; omega)) _ | refine Below.alloc ?_ (by first | (simp; done) | (simp; omega) | omega) _ | refine Below.drew ?_ | refine Below.trans ?_ (Below.mono (by assumption) (by first | (simp; done) | (simp; omega) | omega)))))).mono ?_
  rintro e w3 ⟨v, rfl, hi, hb3⟩
  have hz3 := hb3.size
  (try simp at hz3)
  have bb3 : Below w2.heap.size w2 w3 := (by repeat (first | exact Below.refl _ _ | assumption | refine below_drewN ?_ _ | refine Below.setCell ?_ (by first | (simp; done) | (simp; omega)) _ | refine Below.alloc ?_ (by first | (simp; done) | (simp; omega) | omega) _ | refine Below.drew ?_ | refine Below.trans ?_ (Below.mono (by assumption) (by first | (simp; done) | (simp; omega) | omega))))
  have be3 : Below w.heap.size w w3 := BE2.out.trans (bb3.mono BE2.out.size)
  have hch3 := HCH2.out.below bb3
  have c3_z_0 : w3.cell? ⟨w.heap.size, 0, none⟩ = some (.int .i64 o) := cell_keep bb3 c2_z_0
  have c3_z_1 : w3.cell? ⟨w.heap.size, 1, none⟩ = some (.slice p cs.length cap) := cell_keep bb3 c2_z_1
  have l3_z : w.heap.size < w3.heap.size := by omega
  have m3_z : w.heap.size < w3.heap.size + 1 := by omega
  rw [HI.out] at hi
  obtain ⟨q, cap2, rfl, hi⟩ := hi
  clear hi
  simp only [List.length_nil]
  have BE3 := Lib.hid be3
  have HCH3 := Lib.hid hch3
  clear be3 hch3 bb3 hb3 BE2 HCH2 c2_z_0 c2_z_1 l2_z m2_z
  go_wp2_with fail
  refine (instant_calls o p cs cap d m later _ (HCH3.out.below (by repeat (first | exact Below.refl _ _ | assumption | refine below_drewN ?_ _ | refine Below.setCell ?_ (by first | (simp; done) | (simp; omega)) _ | refine Below.alloc ?_ (by first | (simp; done) | (simp; omega) | omega) _ | refine Below.drew ?_ | refine Below.trans ?_ (Below.mono (by assumption) (by first | (simp; done) | (simp; omega) | omega)))))).mono ?_
  rintro e w4 ⟨rfl, hb4⟩
  rw [HT.out, R2]
  have hz4 := hb4.size
  (try simp at hz4)
  have bb4 : Below w3.heap.size w3 w4 := (by repeat (first | exact Below.refl _ _ | assumption | refine below_drewN ?_ _ | refine Below.setCell ?_ (by first | (simp; done) | (simp; omega)) _ | refine Below.alloc ?_ (by first | (simp; done) | (simp; omega) | omega) _ | refine Below.drew ?_ | refine Below.trans ?_ (Below.mono (by assumption) (by first | (simp; done) | (simp; omega) | omega))))
  have be4 : Below w.heap.size w w4 := BE3.out.trans (bb4.mono BE3.out.size)
  have hch4 := HCH3.out.below bb4
  have c4_z_0 : w4.cell? ⟨w.heap.size, 0, none⟩ = some (.int .i64 o) := cell_keep bb4 c3_z_0
  have c4_z_1 : w4.cell? ⟨w.heap.size, 1, none⟩ = some (.slice p cs.length cap) := cell_keep bb4 c3_z_1
  have l4_z : w.heap.size < w4.heap.size := by omega
  have m4_z : w.heap.size < w4.heap.size + 1 := by omega
  have BE4 := Lib.hid be4
  have HCH4 := Lib.hid hch4
  clear be4 hch4 bb4 hb4 BE3 HCH3 c3_z_0 c3_z_1 l3_z m3_z
  go_wp2_with fail
  refine (local_calls o p cs cap t _ (HCH4.out.below (by repeat (first | exact Below.refl _ _ | assumption | refine below_drewN ?_ _ | refine Below.setCell ?_ (by first | (simp; done) | (simp; omega)) _ | refine Below.alloc ?_ (by first | (simp; done) | (simp; omega) | omega) _ | refine Below.drew ?_ | refine Below.trans ?_ (Below.mono (by assumption) (by first | (simp; done) | (simp; omega) | omega)))))).mono ?_
  rintro e w5 ⟨rfl, hb5⟩
  rw [HA.out, R3]
  have hz5 := hb5.size
  (try simp at hz5)
  have bb5 : Below w4.heap.size w4 w5 := (by repeat (first | exact Below.refl _ _ | assumption | refine below_drewN ?_ _ | refine Below.setCell ?_ (by first | (simp; done) | (simp; omega)) _ | refine Below.alloc ?_ (by first | (simp; done) | (simp; omega) | omega) _ | refine Below.drew ?_ | refine Below.trans ?_ (Below.mono (by assumption) (by first | (simp; done) | (simp; omega) | omega))))
  have be5 : Below w.heap.size w w5 := BE4.out.trans (bb5.mono BE4.out.size)
  have hch5 := HCH4.out.below bb5
  have c5_z_0 : w5.cell? ⟨w.heap.size, 0, none⟩ = some (.int .i64 o) := cell_keep bb5 c4_z_0
  have c5_z_1 : w5.cell? ⟨w.heap.size, 1, none⟩ = some (.slice p cs.length cap) := cell_keep bb5 c4_z_1
  have l5_z : w.heap.size < w5.heap.size := by omega
  have m5_z : w.heap.size < w5.heap.size + 1 := by omega
  have BE5 := Lib.hid be5
  have HCH5 := Lib.hid hch5
  clear be5 hch5 bb5 hb5 BE4 HCH4 c4_z_0 c4_z_1 l4_z m4_z
  go_wp2_with fail
  refine (local_calls o p cs cap (t - 1) _ (HCH5.out.below (by repeat (first | exact Below.refl _ _ | assumption | refine below_drewN ?_ _ | refine Below.setCell ?_ (by first | (simp; done) | (simp; omega)) _ | refine Below.alloc ?_ (by first | (simp; done) | (simp; omega) | omega) _ | refine Below.drew ?_ | refine Below.trans ?_ (Below.mono (by assumption) (by first | (simp; done) | (simp; omega) | omega)))))).mono ?_
  rintro e w6 ⟨rfl, hb6⟩
  rw [HB.out, R3]
  have hz6 := hb6.size
  (try simp at hz6)
  have bb6 : Below w5.heap.size w5 w6 := (by repeat (first | exact Below.refl _ _ | assumption | refine below_drewN ?_ _ | refine Below.setCell ?_ (by first | (simp; done) | (simp; omega)) _ | refine Below.alloc ?_ (by first | (simp; done) | (simp; omega) | omega) _ | refine Below.drew ?_ | refine Below.trans ?_ (Below.mono (by assumption) (by first | (simp; done) | (simp; omega) | omega))))
  have be6 : Below w.heap.size w w6 := BE5.out.trans (bb6.mono BE5.out.size)
  have hch6 := HCH5.out.below bb6
  have c6_z_0 : w6.cell? ⟨w.heap.size, 0, none⟩ = some (.int .i64 o) := cell_keep bb6 c5_z_0
  have c6_z_1 : w6.cell? ⟨w.heap.size, 1, none⟩ = some (.slice p cs.length cap) := cell_keep bb6 c5_z_1
  have l6_z : w.heap.size < w6.heap.size := by omega
  have m6_z : w.heap.size < w6.heap.size + 1 := by omega
  have BE6 := Lib.hid be6
  have HCH6 := Lib.hid hch6
  clear be6 hch6 bb6 hb6 BE5 HCH5 c5_z_0 c5_z_1 l5_z m5_z
  go_wp2_with fail
  go_ret
  exact ⟨by first | rfl | exact ret_bool (decide_eq_true (by omega)) | (refine ret_bool ?_; simp; omega), by have q := BE6.out; repeat (first | exact q | refine Below.alloc ?_ (by first | omega | (simp; omega)) _ | refine below_drewN ?_ _ | refine Below.drew ?_)⟩
set_option maxRecDepth 100000 in
set_option maxHeartbeats 1600000 in
theorem skipped_22 (o : Int) (p : Option Addr) (cs : List (Int × Int)) (cap : Nat) (r s d m t : Int) (later : Bool) (w : World) (hcg : Chg w p cs) (h0 : 0 ≤ r) (h1 : r ≤ 4294967295) (h2 : 0 ≤ s) (h3 : s ≤ 65535) (hd : r % 73049 = d) (hm : s % 1440 = m) (hn : cs.length ≤ 100) (hi : Zn.instS o cs d m = []) (ht : Zn.instantS o cs d m later = (t, 0)) (ht0 : 5760 < t) (ht1 : t ≤ 105190559) (ha : Zn.localS o cs t = (0, 0, 2)) (hb : Zn.localS o cs (t - 1) = (0, 0, 2)) :
    Calls Try.prog 5 #[.agg #[.int .i64 o, .slice p cs.length cap], .int .u32 r, .int .u16 s, .bool later] w fun e w' => e = .returned (.bool true) ∧ Below w.heap.size w w' := by
  have wt : wrap64 (t - 1) = t - 1 := by unfold wrap64; omega
  have wd : wrap64 (d * 1440) = d * 1440 := by unfold wrap64; omega
  have wm : wrap64 (d * 1440 + m) = d * 1440 + m := by unfold wrap64; omega
  have HCH0 := Lib.hid hcg
  have HD := Lib.hid hd
  have HM := Lib.hid hm
  clear hcg hd hm
  have HI := Lib.hid hi
  have HT := Lib.hid ht
  clear hi ht
  have HA := Lib.hid ha
  have HB := Lib.hid hb
  clear ha hb
  go_enter Try.func5, Try.ntmps5
  go_wp2_with fail
  refine (head_any _).mono ?_
  rintro e w1 ⟨rfl, hb1⟩
  have hz1 := hb1.size
  (try simp at hz1)
  have bb1 : Below w.heap.size w w1 := (by repeat (first | exact Below.refl _ _ | assumption | refine below_drewN ?_ _ | refine Below.setCell ?_ (by first | (simp; done) | (simp; omega)) _ | refine Below.alloc ?_ (by first | (simp; done) | (simp; omega) | omega) _ | refine Below.drew ?_ | refine Below.trans ?_ (Below.mono (by assumption) (by first | (simp; done) | (simp; omega) | omega))))
  have be1 : Below w.heap.size w w1 := bb1
  have hch1 := HCH0.out.below bb1
  have c1_z_0 : w1.cell? ⟨w.heap.size, 0, none⟩ = some (.int .i64 o) := cell_keep hb1 (by go_simp)
  have c1_z_1 : w1.cell? ⟨w.heap.size, 1, none⟩ = some (.slice p cs.length cap) := cell_keep hb1 (by go_simp)
  have l1_z : w.heap.size < w1.heap.size := by omega
  have m1_z : w.heap.size < w1.heap.size + 1 := by omega
  have BE1 := Lib.hid be1
  have HCH1 := Lib.hid hch1
  clear be1 hch1 bb1 hb1 HCH0
  go_wp2_with fail
  refine (few_yes o p cs cap _ hn).mono ?_
  rintro e w2 ⟨rfl, hb2⟩
  have hz2 := hb2.size
  (try simp at hz2)
  have bb2 : Below w1.heap.size w1 w2 := (by repeat (first | exact Below.refl _ _ | assumption | refine below_drewN ?_ _ | refine Below.setCell ?_ (by first | (simp; done) | (simp; omega)) _ | refine Below.alloc ?_ (by first | (simp; done) | (simp; omega) | omega) _ | refine Below.drew ?_ | refine Below.trans ?_ (Below.mono (by assumption) (by first | (simp; done) | (simp; omega) | omega))))
  have be2 : Below w.heap.size w w2 := BE1.out.trans (bb2.mono BE1.out.size)
  have hch2 := HCH1.out.below bb2
  have c2_z_0 : w2.cell? ⟨w.heap.size, 0, none⟩ = some (.int .i64 o) := cell_keep bb2 c1_z_0
  have c2_z_1 : w2.cell? ⟨w.heap.size, 1, none⟩ = some (.slice p cs.length cap) := cell_keep bb2 c1_z_1
  have l2_z : w.heap.size < w2.heap.size := by omega
  have m2_z : w.heap.size < w2.heap.size + 1 := by omega
  have BE2 := Lib.hid be2
  have HCH2 := Lib.hid hch2
  clear be2 hch2 bb2 hb2 BE1 HCH1 c1_z_0 c1_z_1 l1_z m1_z
  go_wp2_with fail
  simp only [HD.out, HM.out]
  refine (instants_calls o p cs cap d m _ (HCH2.out.below (by repeat (first | exact Below.refl _ _ | assumption | refine below_drewN ?_ _ | refine Below.setCell ?_ (by first | (simp; done) | (simp; omega)) _ | refine Below.alloc ?_ (by first | (simp; done) | (simp; omega) | omega) _ | refine Below.drew ?_ | refine Below.trans ?_ (Below.mono (by assumption) (by first | (simp; done) | (simp; omega) | omega)))))).mono ?_
  rintro e w3 ⟨v, rfl, hi, hb3⟩
  have hz3 := hb3.size
  (try simp at hz3)
  have bb3 : Below w2.heap.size w2 w3 := (by repeat (first | exact Below.refl _ _ | assumption | refine below_drewN ?_ _ | refine Below.setCell ?_ (by first | (simp; done) | (simp; omega)) _ | refine Below.alloc ?_ (by first | (simp; done) | (simp; omega) | omega) _ | refine Below.drew ?_ | refine Below.trans ?_ (Below.mono (by assumption) (by first | (simp; done) | (simp; omega) | omega))))
  have be3 : Below w.heap.size w w3 := BE2.out.trans (bb3.mono BE2.out.size)
  have hch3 := HCH2.out.below bb3
  have c3_z_0 : w3.cell? ⟨w.heap.size, 0, none⟩ = some (.int .i64 o) := cell_keep bb3 c2_z_0
  have c3_z_1 : w3.cell? ⟨w.heap.size, 1, none⟩ = some (.slice p cs.length cap) := cell_keep bb3 c2_z_1
  have l3_z : w.heap.size < w3.heap.size := by omega
  have m3_z : w.heap.size < w3.heap.size + 1 := by omega
  rw [HI.out] at hi
  obtain ⟨q, cap2, rfl, hi⟩ := hi
  clear hi
  simp only [List.length_nil]
  have BE3 := Lib.hid be3
  have HCH3 := Lib.hid hch3
  clear be3 hch3 bb3 hb3 BE2 HCH2 c2_z_0 c2_z_1 l2_z m2_z
  go_wp2_with fail
  refine (instant_calls o p cs cap d m later _ (HCH3.out.below (by repeat (first | exact Below.refl _ _ | assumption | refine below_drewN ?_ _ | refine Below.setCell ?_ (by first | (simp; done) | (simp; omega)) _ | refine Below.alloc ?_ (by first | (simp; done) | (simp; omega) | omega) _ | refine Below.drew ?_ | refine Below.trans ?_ (Below.mono (by assumption) (by first | (simp; done) | (simp; omega) | omega)))))).mono ?_
  rintro e w4 ⟨rfl, hb4⟩
  rw [HT.out, R2]
  have hz4 := hb4.size
  (try simp at hz4)
  have bb4 : Below w3.heap.size w3 w4 := (by repeat (first | exact Below.refl _ _ | assumption | refine below_drewN ?_ _ | refine Below.setCell ?_ (by first | (simp; done) | (simp; omega)) _ | refine Below.alloc ?_ (by first | (simp; done) | (simp; omega) | omega) _ | refine Below.drew ?_ | refine Below.trans ?_ (Below.mono (by assumption) (by first | (simp; done) | (simp; omega) | omega))))
  have be4 : Below w.heap.size w w4 := BE3.out.trans (bb4.mono BE3.out.size)
  have hch4 := HCH3.out.below bb4
  have c4_z_0 : w4.cell? ⟨w.heap.size, 0, none⟩ = some (.int .i64 o) := cell_keep bb4 c3_z_0
  have c4_z_1 : w4.cell? ⟨w.heap.size, 1, none⟩ = some (.slice p cs.length cap) := cell_keep bb4 c3_z_1
  have l4_z : w.heap.size < w4.heap.size := by omega
  have m4_z : w.heap.size < w4.heap.size + 1 := by omega
  have BE4 := Lib.hid be4
  have HCH4 := Lib.hid hch4
  clear be4 hch4 bb4 hb4 BE3 HCH3 c3_z_0 c3_z_1 l3_z m3_z
  go_wp2_with fail
  refine (local_calls o p cs cap t _ (HCH4.out.below (by repeat (first | exact Below.refl _ _ | assumption | refine below_drewN ?_ _ | refine Below.setCell ?_ (by first | (simp; done) | (simp; omega)) _ | refine Below.alloc ?_ (by first | (simp; done) | (simp; omega) | omega) _ | refine Below.drew ?_ | refine Below.trans ?_ (Below.mono (by assumption) (by first | (simp; done) | (simp; omega) | omega)))))).mono ?_
  rintro e w5 ⟨rfl, hb5⟩
  rw [HA.out, R3]
  have hz5 := hb5.size
  (try simp at hz5)
  have bb5 : Below w4.heap.size w4 w5 := (by repeat (first | exact Below.refl _ _ | assumption | refine below_drewN ?_ _ | refine Below.setCell ?_ (by first | (simp; done) | (simp; omega)) _ | refine Below.alloc ?_ (by first | (simp; done) | (simp; omega) | omega) _ | refine Below.drew ?_ | refine Below.trans ?_ (Below.mono (by assumption) (by first | (simp; done) | (simp; omega) | omega))))
  have be5 : Below w.heap.size w w5 := BE4.out.trans (bb5.mono BE4.out.size)
  have hch5 := HCH4.out.below bb5
  have c5_z_0 : w5.cell? ⟨w.heap.size, 0, none⟩ = some (.int .i64 o) := cell_keep bb5 c4_z_0
  have c5_z_1 : w5.cell? ⟨w.heap.size, 1, none⟩ = some (.slice p cs.length cap) := cell_keep bb5 c4_z_1
  have l5_z : w.heap.size < w5.heap.size := by omega
  have m5_z : w.heap.size < w5.heap.size + 1 := by omega
  have BE5 := Lib.hid be5
  have HCH5 := Lib.hid hch5
  clear be5 hch5 bb5 hb5 BE4 HCH4 c4_z_0 c4_z_1 l4_z m4_z
  go_wp2_with fail
  refine (local_calls o p cs cap (t - 1) _ (HCH5.out.below (by repeat (first | exact Below.refl _ _ | assumption | refine below_drewN ?_ _ | refine Below.setCell ?_ (by first | (simp; done) | (simp; omega)) _ | refine Below.alloc ?_ (by first | (simp; done) | (simp; omega) | omega) _ | refine Below.drew ?_ | refine Below.trans ?_ (Below.mono (by assumption) (by first | (simp; done) | (simp; omega) | omega)))))).mono ?_
  rintro e w6 ⟨rfl, hb6⟩
  rw [HB.out, R3]
  have hz6 := hb6.size
  (try simp at hz6)
  have bb6 : Below w5.heap.size w5 w6 := (by repeat (first | exact Below.refl _ _ | assumption | refine below_drewN ?_ _ | refine Below.setCell ?_ (by first | (simp; done) | (simp; omega)) _ | refine Below.alloc ?_ (by first | (simp; done) | (simp; omega) | omega) _ | refine Below.drew ?_ | refine Below.trans ?_ (Below.mono (by assumption) (by first | (simp; done) | (simp; omega) | omega))))
  have be6 : Below w.heap.size w w6 := BE5.out.trans (bb6.mono BE5.out.size)
  have hch6 := HCH5.out.below bb6
  have c6_z_0 : w6.cell? ⟨w.heap.size, 0, none⟩ = some (.int .i64 o) := cell_keep bb6 c5_z_0
  have c6_z_1 : w6.cell? ⟨w.heap.size, 1, none⟩ = some (.slice p cs.length cap) := cell_keep bb6 c5_z_1
  have l6_z : w.heap.size < w6.heap.size := by omega
  have m6_z : w.heap.size < w6.heap.size + 1 := by omega
  have BE6 := Lib.hid be6
  have HCH6 := Lib.hid hch6
  clear be6 hch6 bb6 hb6 BE5 HCH5 c5_z_0 c5_z_1 l5_z m5_z
  go_wp2_with fail
  go_ret
  exact ⟨by first | rfl | exact ret_bool (decide_eq_true (by omega)) | (refine ret_bool ?_; simp; omega), by have q := BE6.out; repeat (first | exact q | refine Below.alloc ?_ (by first | omega | (simp; omega)) _ | refine below_drewN ?_ _ | refine Below.drew ?_)⟩
theorem local_cases {o : Int} {cs : List (Int × Int)} {t : Int} (h : Zn.Ok o cs) (h0 : 0 ≤ t) (h1 : t ≤ 105190559) :
    Zn.localS o cs t = (0, 0, 2) ∨ ∃ a b, Zn.localS o cs t = (a, b, 0) ∧ 0 ≤ a ∧ a ≤ 73048 ∧ 0 ≤ b ∧ b ≤ 1439 ∧ a * 1440 + b = t + Zn.offAt o cs t := by
  by_cases hl : 0 ≤ t + Zn.offAt o cs t ∧ t + Zn.offAt o cs t ≤ 105190559
  · have e := Zn.local_ok ⟨h, h0, h1⟩ hl
    obtain ⟨_, _, _, q1, q2, q3, q4, q5⟩ := Zn.local_back e
    exact .inr ⟨_, _, e, q4, q5, q2, q3, q1⟩
  · exact .inl (Zn.local_range ⟨h, h0, h1⟩ hl)
theorem skipped_law (o : Int) (p : Option Addr) (cs : List (Int × Int)) (cap : Nat) (r s : Int) (later : Bool) (w : World) (hcg : Chg w p cs) (_ : -9223372036854775808 ≤ o ∧ o ≤ 9223372036854775807) (_ : ∀ c ∈ cs, (-9223372036854775808 ≤ c.1 ∧ c.1 ≤ 9223372036854775807) ∧ (-9223372036854775808 ≤ c.2 ∧ c.2 ≤ 9223372036854775807))
    (h0 : 0 ≤ r) (h1 : r ≤ 4294967295) (h2 : 0 ≤ s) (h3 : s ≤ 65535) :
    Calls Try.prog 5 #[.agg #[.int .i64 o, .slice p cs.length cap], .int .u32 r, .int .u16 s, .bool later] w fun e w' => e = .returned (.bool true) ∧ Below w.heap.size w w' := by
  by_cases hn : 100 < cs.length
  · exact skipped_many o p cs cap r s later w hcg hn
  have hn' : cs.length ≤ 100 := by omega
  obtain ⟨d, hd⟩ : ∃ d, d = r % 73049 := ⟨_, rfl⟩
  obtain ⟨m, hm⟩ : ∃ m, m = s % 1440 := ⟨_, rfl⟩
  by_cases hok : Zn.Ok o cs
  · have hg : Zn.good o cs d m := ⟨hok, by omega, by omega, by omega, by omega⟩
    have e1 : Zn.instS o cs d m = Zn.inst 0 o cs (d * 1440 + m) := by unfold Zn.instS; rw [if_pos hg]
    have e2 : Zn.instantS o cs d m later = Zn.pickS (Zn.inst 0 o cs (d * 1440 + m)) (Zn.skip o cs (d * 1440 + m)) later := by unfold Zn.instantS; rw [if_pos hg]
    have k2 := Zn.inst_two cs 0 o (d * 1440 + m) hok.1 hok.2.1 hok.2.2.2
    rcases hi : Zn.inst 0 o cs (d * 1440 + m) with _ | ⟨x, _ | ⟨y, _ | ⟨z, l⟩⟩⟩
    · rcases ht : Zn.instantS o cs d m later with ⟨t, e⟩
      by_cases he : e = 0
      · subst he
        obtain ⟨q1, q2, q3, q4⟩ := Zn.instant_skip hg (e1.trans hi) ht
        rcases local_cases (t := t) hok (by omega) q2 with ha | ⟨a, b, ha, a0, a1, b0, b1, hab⟩
        · rcases local_cases (t := t - 1) hok (by omega) (by omega) with hb | ⟨c, g, hb, c0, c1, g0, g1, hcg2⟩
          · exact skipped_22 o p cs cap r s d m t later w hcg h0 h1 h2 h3 hd.symm hm.symm hn' (e1.trans hi) ht q1 q2 ha hb
          · exact skipped_20 o p cs cap r s d m t c g later w hcg h0 h1 h2 h3 hd.symm hm.symm hn' (e1.trans hi) ht q1 q2 ha hb c0 c1 g0 g1 (by omega)
        · rcases local_cases (t := t - 1) hok (by omega) (by omega) with hb | ⟨c, g, hb, c0, c1, g0, g1, hcg2⟩
          · exact skipped_02 o p cs cap r s d m t a b later w hcg h0 h1 h2 h3 hd.symm hm.symm hn' (e1.trans hi) ht q1 q2 ha a0 a1 b0 b1 (by omega) hb
          · exact skipped_00 o p cs cap r s d m t a b c g later w hcg h0 h1 h2 h3 hd.symm hm.symm hn' (e1.trans hi) ht q1 q2 ha a0 a1 b0 b1 (by omega) hb c0 c1 g0 g1 (by omega)
      · have hz : t = 0 := by
          have := Zn.instant_err (o := o) (cs := cs) (day := d) (minute := m) (later := later) (by rw [ht]; exact he)
          rw [ht] at this
          exact this
        subst hz
        exact skipped_err o p cs cap r s d m e later w hcg h0 h1 h2 h3 hd.symm hm.symm hn' (e1.trans hi) ht (by simpa using he)
    · have e3 : Zn.instantS o cs d m later = (x, 0) := by rw [e2, hi]; unfold Zn.pickS; cases later <;> rfl
      cases later with
      | false => exact skipped_one_f o p cs cap r s d m x w hcg h0 h1 h2 h3 hd.symm hm.symm hn' (e1.trans hi) e3
      | true => exact skipped_one_t o p cs cap r s d m x w hcg h0 h1 h2 h3 hd.symm hm.symm hn' (e1.trans hi) e3
    · cases later with
      | false => exact skipped_two_f o p cs cap r s d m x y w hcg h0 h1 h2 h3 hd.symm hm.symm hn' (e1.trans hi) (by rw [e2, hi]; rfl)
      | true => exact skipped_two_t o p cs cap r s d m x y w hcg h0 h1 h2 h3 hd.symm hm.symm hn' (e1.trans hi) (by rw [e2, hi]; rfl)
    · rw [hi] at k2
      simp at k2
  · have e1 : Zn.instS o cs d m = [] := by unfold Zn.instS; rw [if_neg (fun k => hok k.1)]
    have e2 : Zn.instantS o cs d m later = (0, 1) := by unfold Zn.instantS; rw [if_neg (fun k => hok k.1)]
    exact skipped_err o p cs cap r s d m 1 later w hcg h0 h1 h2 h3 hd.symm hm.symm hn' e1 e2 rfl
end Go.Proofs.Ytcacmigfpahicaa

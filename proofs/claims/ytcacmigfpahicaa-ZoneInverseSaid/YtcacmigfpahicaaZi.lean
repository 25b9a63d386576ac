/- ZoneInverse: the walk of the law. -/
import Derived.Test.YtcacmigfpahicaaZnH
import Derived.Deep.RegionHeld3
namespace Go.Proofs.Ytcacmigfpahicaa
open Go.RowKit Go.Shelf

theorem holdS {W w' : World} (h : Below W.heap.size W w') : Below W.heap.size W w' ∧ ∀ b o, b < W.heap.size → w'.cell? ⟨b, o, none⟩ = W.cell? ⟨b, o, none⟩ := ⟨h, fun b o hb => h.cell (p := ⟨b, o, none⟩) hb⟩
theorem holdT {W w' w'' : World} (h : Below W.heap.size W w' ∧ ∀ b o, b < W.heap.size → w'.cell? ⟨b, o, none⟩ = W.cell? ⟨b, o, none⟩) (hb : Below w'.heap.size w' w'') :
    Below W.heap.size W w'' ∧ ∀ b o, b < W.heap.size → w''.cell? ⟨b, o, none⟩ = W.cell? ⟨b, o, none⟩ := holdS (h.1.trans (hb.mono h.1.size))
set_option maxRecDepth 100000 in
set_option maxHeartbeats 1600000 in
theorem inverse_many (o : Int) (p : Option Addr) (cs : List (Int × Int)) (cap : Nat) (r : Int) (w : World) (hcg : Chg w p cs) (hn : 100 < cs.length) (h0 : 0 ≤ r) (h1 : r ≤ 4294967295) :
    Calls Try.prog 4 #[.agg #[.int .i64 o, .slice p cs.length cap], .int .u32 r] w fun e w' => e = .returned (.bool true) ∧ Below w.heap.size w w' := by
  have HCH0 := Lib.hid hcg
  clear hcg
  go_enter Try.func4, Try.ntmps4
  go_wp2_with fail
  refine (head_any _).mono ?_
  rintro e w1 ⟨rfl, hb1⟩
  have hz1 := hb1.size
  (try simp at hz1)
  have bb1 : Below w.heap.size w w1 := (by repeat (first | exact Below.refl _ _ | assumption | refine below_drewN ?_ _ | refine Below.setCell ?_ (by first | (simp; done) | (simp; omega)) _ | refine Below.alloc ?_ (by first | (simp; done) | (simp; omega) | omega) _ | refine Below.drew ?_ | refine Below.trans ?_ (Below.mono (by assumption) (by first | (simp; done) | (simp; omega) | omega))))
  have be1 : Below w.heap.size w w1 := bb1
  have hch1 := HCH0.out.below bb1
  have c1_z_0 : w1.cell? ⟨w.heap.size, 0, none⟩ = some (.int .i64 o) := cell_keep hb1 (by go_simp)
  have c1_z_1 : w1.cell? ⟨w.heap.size, 1, none⟩ = some (.slice p cs.length cap) := cell_keep hb1 (by go_simp)
  have l1_z : w.heap.size < w1.heap.size := by omega
  have m1_z : w.heap.size < w1.heap.size + 1 := by omega
  have BE1 := Lib.hid be1
  have HCH1 := Lib.hid hch1
  clear be1 hch1 bb1 hb1 HCH0
  go_wp2_with fail
  refine (few_no o p cs cap _ hn).mono ?_
  rintro e w2 ⟨rfl, hb2⟩
  have hz2 := hb2.size
  (try simp at hz2)
  have bb2 : Below w1.heap.size w1 w2 := (by repeat (first | exact Below.refl _ _ | assumption | refine below_drewN ?_ _ | refine Below.setCell ?_ (by first | (simp; done) | (simp; omega)) _ | refine Below.alloc ?_ (by first | (simp; done) | (simp; omega) | omega) _ | refine Below.drew ?_ | refine Below.trans ?_ (Below.mono (by assumption) (by first | (simp; done) | (simp; omega) | omega))))
  have be2 : Below w.heap.size w w2 := BE1.out.trans (bb2.mono BE1.out.size)
  have hch2 := HCH1.out.below bb2
  have c2_z_0 : w2.cell? ⟨w.heap.size, 0, none⟩ = some (.int .i64 o) := cell_keep bb2 c1_z_0
  have c2_z_1 : w2.cell? ⟨w.heap.size, 1, none⟩ = some (.slice p cs.length cap) := cell_keep bb2 c1_z_1
  have l2_z : w.heap.size < w2.heap.size := by omega
  have m2_z : w.heap.size < w2.heap.size + 1 := by omega
  have BE2 := Lib.hid be2
  have HCH2 := Lib.hid hch2
  clear be2 hch2 bb2 hb2 BE1 HCH1 c1_z_0 c1_z_1 l1_z m1_z
  go_wp2_with fail
  go_ret
  exact ⟨rfl, by have q := BE2.out; repeat (first | exact q | refine Below.alloc ?_ (by first | omega | (simp; omega)) _ | refine below_drewN ?_ _ | refine Below.drew ?_)⟩
set_option maxRecDepth 100000 in
set_option maxHeartbeats 1600000 in
theorem inverse_err (o : Int) (p : Option Addr) (cs : List (Int × Int)) (cap : Nat) (r t e : Int) (w : World) (hcg : Chg w p cs) (h0 : 0 ≤ r) (h1 : r ≤ 4294967295) (ht : r % 105190560 = t) (hn : cs.length ≤ 100) (hv : Zn.localS o cs t = (0, 0, e)) (he : (e == 0) = false) :
    Calls Try.prog 4 #[.agg #[.int .i64 o, .slice p cs.length cap], .int .u32 r] w fun e w' => e = .returned (.bool true) ∧ Below w.heap.size w w' := by
  have HCH0 := Lib.hid hcg
  have HT := Lib.hid ht
  clear hcg ht
  have HV := Lib.hid hv
  clear hv
  go_enter Try.func4, Try.ntmps4
  go_wp2_with fail
  refine (head_any _).mono ?_
  rintro e w1 ⟨rfl, hb1⟩
  have hz1 := hb1.size
  (try simp at hz1)
  have bb1 : Below w.heap.size w w1 := (by repeat (first | exact Below.refl _ _ | assumption | refine below_drewN ?_ _ | refine Below.setCell ?_ (by first | (simp; done) | (simp; omega)) _ | refine Below.alloc ?_ (by first | (simp; done) | (simp; omega) | omega) _ | refine Below.drew ?_ | refine Below.trans ?_ (Below.mono (by assumption) (by first | (simp; done) | (simp; omega) | omega))))
  have be1 : Below w.heap.size w w1 := bb1
  have hch1 := HCH0.out.below bb1
  have c1_z_0 : w1.cell? ⟨w.heap.size, 0, none⟩ = some (.int .i64 o) := cell_keep hb1 (by go_simp)
  have c1_z_1 : w1.cell? ⟨w.heap.size, 1, none⟩ = some (.slice p cs.length cap) := cell_keep hb1 (by go_simp)
  have l1_z : w.heap.size < w1.heap.size := by omega
  have m1_z : w.heap.size < w1.heap.size + 1 := by omega
  have BE1 := Lib.hid be1
  have HCH1 := Lib.hid hch1
  clear be1 hch1 bb1 hb1 HCH0
  go_wp2_with fail
  refine (few_yes o p cs cap _ hn).mono ?_
  rintro e w2 ⟨rfl, hb2⟩
  have hz2 := hb2.size
  (try simp at hz2)
  have bb2 : Below w1.heap.size w1 w2 := (by repeat (first | exact Below.refl _ _ | assumption | refine below_drewN ?_ _ | refine Below.setCell ?_ (by first | (simp; done) | (simp; omega)) _ | refine Below.alloc ?_ (by first | (simp; done) | (simp; omega) | omega) _ | refine Below.drew ?_ | refine Below.trans ?_ (Below.mono (by assumption) (by first | (simp; done) | (simp; omega) | omega))))
  have be2 : Below w.heap.size w w2 := BE1.out.trans (bb2.mono BE1.out.size)
  have hch2 := HCH1.out.below bb2
  have c2_z_0 : w2.cell? ⟨w.heap.size, 0, none⟩ = some (.int .i64 o) := cell_keep bb2 c1_z_0
  have c2_z_1 : w2.cell? ⟨w.heap.size, 1, none⟩ = some (.slice p cs.length cap) := cell_keep bb2 c1_z_1
  have l2_z : w.heap.size < w2.heap.size := by omega
  have m2_z : w.heap.size < w2.heap.size + 1 := by omega
  have BE2 := Lib.hid be2
  have HCH2 := Lib.hid hch2
  clear be2 hch2 bb2 hb2 BE1 HCH1 c1_z_0 c1_z_1 l1_z m1_z
  go_wp2_with fail
  simp only [HT.out]
  refine (local_calls o p cs cap t _ (HCH2.out.below (by repeat (first | exact Below.refl _ _ | assumption | refine below_drewN ?_ _ | refine Below.setCell ?_ (by first | (simp; done) | (simp; omega)) _ | refine Below.alloc ?_ (by first | (simp; done) | (simp; omega) | omega) _ | refine Below.drew ?_ | refine Below.trans ?_ (Below.mono (by assumption) (by first | (simp; done) | (simp; omega) | omega)))))).mono ?_
  rintro e w3 ⟨rfl, hb3⟩
  rw [HV.out, R3]
  have hz3 := hb3.size
  (try simp at hz3)
  have bb3 : Below w2.heap.size w2 w3 := (by repeat (first | exact Below.refl _ _ | assumption | refine below_drewN ?_ _ | refine Below.setCell ?_ (by first | (simp; done) | (simp; omega)) _ | refine Below.alloc ?_ (by first | (simp; done) | (simp; omega) | omega) _ | refine Below.drew ?_ | refine Below.trans ?_ (Below.mono (by assumption) (by first | (simp; done) | (simp; omega) | omega))))
  have be3 : Below w.heap.size w w3 := BE2.out.trans (bb3.mono BE2.out.size)
  have hch3 := HCH2.out.below bb3
  have c3_z_0 : w3.cell? ⟨w.heap.size, 0, none⟩ = some (.int .i64 o) := cell_keep bb3 c2_z_0
  have c3_z_1 : w3.cell? ⟨w.heap.size, 1, none⟩ = some (.slice p cs.length cap) := cell_keep bb3 c2_z_1
  have l3_z : w.heap.size < w3.heap.size := by omega
  have m3_z : w.heap.size < w3.heap.size + 1 := by omega
  have BE3 := Lib.hid be3
  have HCH3 := Lib.hid hch3
  clear be3 hch3 bb3 hb3 BE2 HCH2 c2_z_0 c2_z_1 l2_z m2_z
  go_wp2_with fail
  go_ret
  exact ⟨rfl, by have q := BE3.out; repeat (first | exact q | refine Below.alloc ?_ (by first | omega | (simp; omega)) _ | refine below_drewN ?_ _ | refine Below.drew ?_)⟩
set_option maxRecDepth 100000 in
set_option maxHeartbeats 1600000 in
theorem inverse_one (o : Int) (p : Option Addr) (cs : List (Int × Int)) (cap : Nat) (r t a b : Int) (w : World) (hcg : Chg w p cs) (h0 : 0 ≤ r) (h1 : r ≤ 4294967295) (ht : r % 105190560 = t) (hn : cs.length ≤ 100) (hv : Zn.localS o cs t = (a, b, 0)) (hi : Zn.instS o cs a b = [t]) (hx0 : Zn.localS o cs t = (a, b, 0)) :
    Calls Try.prog 4 #[.agg #[.int .i64 o, .slice p cs.length cap], .int .u32 r] w fun e w' => e = .returned (.bool true) ∧ Below w.heap.size w w' := by
  have HCH0 := Lib.hid hcg
  have HT := Lib.hid ht
  clear hcg ht
  have HV := Lib.hid hv
  have HI := Lib.hid hi
  have HX0 := Lib.hid hx0
  clear hv hi hx0
  go_enter Try.func4, Try.ntmps4
  go_wp2_with fail
  refine (head_any _).mono ?_
  rintro e w1 ⟨rfl, hb1⟩
  have hz1 := hb1.size
  (try simp at hz1)
  have bb1 : Below w.heap.size w w1 := (by repeat (first | exact Below.refl _ _ | assumption | refine below_drewN ?_ _ | refine Below.setCell ?_ (by first | (simp; done) | (simp; omega)) _ | refine Below.alloc ?_ (by first | (simp; done) | (simp; omega) | omega) _ | refine Below.drew ?_ | refine Below.trans ?_ (Below.mono (by assumption) (by first | (simp; done) | (simp; omega) | omega))))
  have be1 : Below w.heap.size w w1 := bb1
  have hch1 := HCH0.out.below bb1
  have c1_z_0 : w1.cell? ⟨w.heap.size, 0, none⟩ = some (.int .i64 o) := cell_keep hb1 (by go_simp)
  have c1_z_1 : w1.cell? ⟨w.heap.size, 1, none⟩ = some (.slice p cs.length cap) := cell_keep hb1 (by go_simp)
  have l1_z : w.heap.size < w1.heap.size := by omega
  have m1_z : w.heap.size < w1.heap.size + 1 := by omega
  have BE1 := Lib.hid be1
  have HCH1 := Lib.hid hch1
  clear be1 hch1 bb1 hb1 HCH0
  go_wp2_with fail
  refine (few_yes o p cs cap _ hn).mono ?_
  rintro e w2 ⟨rfl, hb2⟩
  have hz2 := hb2.size
  (try simp at hz2)
  have bb2 : Below w1.heap.size w1 w2 := (by repeat (first | exact Below.refl _ _ | assumption | refine below_drewN ?_ _ | refine Below.setCell ?_ (by first | (simp; done) | (simp; omega)) _ | refine Below.alloc ?_ (by first | (simp; done) | (simp; omega) | omega) _ | refine Below.drew ?_ | refine Below.trans ?_ (Below.mono (by assumption) (by first | (simp; done) | (simp; omega) | omega))))
  have be2 : Below w.heap.size w w2 := BE1.out.trans (bb2.mono BE1.out.size)
  have hch2 := HCH1.out.below bb2
  have c2_z_0 : w2.cell? ⟨w.heap.size, 0, none⟩ = some (.int .i64 o) := cell_keep bb2 c1_z_0
  have c2_z_1 : w2.cell? ⟨w.heap.size, 1, none⟩ = some (.slice p cs.length cap) := cell_keep bb2 c1_z_1
  have l2_z : w.heap.size < w2.heap.size := by omega
  have m2_z : w.heap.size < w2.heap.size + 1 := by omega
  have BE2 := Lib.hid be2
  have HCH2 := Lib.hid hch2
  clear be2 hch2 bb2 hb2 BE1 HCH1 c1_z_0 c1_z_1 l1_z m1_z
  go_wp2_with fail
  simp only [HT.out]
  refine (local_calls o p cs cap t _ (HCH2.out.below (by repeat (first | exact Below.refl _ _ | assumption | refine below_drewN ?_ _ | refine Below.setCell ?_ (by first | (simp; done) | (simp; omega)) _ | refine Below.alloc ?_ (by first | (simp; done) | (simp; omega) | omega) _ | refine Below.drew ?_ | refine Below.trans ?_ (Below.mono (by assumption) (by first | (simp; done) | (simp; omega) | omega)))))).mono ?_
  rintro e w3 ⟨rfl, hb3⟩
  rw [HV.out, R3]
  have hz3 := hb3.size
  (try simp at hz3)
  have bb3 : Below w2.heap.size w2 w3 := (by repeat (first | exact Below.refl _ _ | assumption | refine below_drewN ?_ _ | refine Below.setCell ?_ (by first | (simp; done) | (simp; omega)) _ | refine Below.alloc ?_ (by first | (simp; done) | (simp; omega) | omega) _ | refine Below.drew ?_ | refine Below.trans ?_ (Below.mono (by assumption) (by first | (simp; done) | (simp; omega) | omega))))
  have be3 : Below w.heap.size w w3 := BE2.out.trans (bb3.mono BE2.out.size)
  have hch3 := HCH2.out.below bb3
  have c3_z_0 : w3.cell? ⟨w.heap.size, 0, none⟩ = some (.int .i64 o) := cell_keep bb3 c2_z_0
  have c3_z_1 : w3.cell? ⟨w.heap.size, 1, none⟩ = some (.slice p cs.length cap) := cell_keep bb3 c2_z_1
  have l3_z : w.heap.size < w3.heap.size := by omega
  have m3_z : w.heap.size < w3.heap.size + 1 := by omega
  have BE3 := Lib.hid be3
  have HCH3 := Lib.hid hch3
  clear be3 hch3 bb3 hb3 BE2 HCH2 c2_z_0 c2_z_1 l2_z m2_z
  go_wp2_with fail
  refine (instants_calls o p cs cap a b _ (HCH3.out.below (by repeat (first | exact Below.refl _ _ | assumption | refine below_drewN ?_ _ | refine Below.setCell ?_ (by first | (simp; done) | (simp; omega)) _ | refine Below.alloc ?_ (by first | (simp; done) | (simp; omega) | omega) _ | refine Below.drew ?_ | refine Below.trans ?_ (Below.mono (by assumption) (by first | (simp; done) | (simp; omega) | omega)))))).mono ?_
  rintro e w4 ⟨v, rfl, hi, hb4⟩
  have hz4 := hb4.size
  (try simp at hz4)
  have bb4 : Below w3.heap.size w3 w4 := (by repeat (first | exact Below.refl _ _ | assumption | refine below_drewN ?_ _ | refine Below.setCell ?_ (by first | (simp; done) | (simp; omega)) _ | refine Below.alloc ?_ (by first | (simp; done) | (simp; omega) | omega) _ | refine Below.drew ?_ | refine Below.trans ?_ (Below.mono (by assumption) (by first | (simp; done) | (simp; omega) | omega))))
  have be4 : Below w.heap.size w w4 := BE3.out.trans (bb4.mono BE3.out.size)
  have hch4 := HCH3.out.below bb4
  have c4_z_0 : w4.cell? ⟨w.heap.size, 0, none⟩ = some (.int .i64 o) := cell_keep bb4 c3_z_0
  have c4_z_1 : w4.cell? ⟨w.heap.size, 1, none⟩ = some (.slice p cs.length cap) := cell_keep bb4 c3_z_1
  have l4_z : w.heap.size < w4.heap.size := by omega
  have m4_z : w.heap.size < w4.heap.size + 1 := by omega
  rw [HI.out] at hi
  obtain ⟨q, cap2, rfl, hi⟩ := hi
  obtain ⟨g, rfl, hj⟩ := hi.resolve_left (by simp)
  have x4_0 : w4.cell? ⟨g, 0, none⟩ = some (.int .i64 t) := hj 0 (by simp)
  have g4 : g < w4.heap.size := Same.lt_of_cell x4_0
  clear hi hj
  simp only [List.length_cons, List.length_nil, Nat.zero_add]
  have BE4 := Lib.hid be4
  have HCH4 := Lib.hid hch4
  clear be4 hch4 bb4 hb4 BE3 HCH3 c3_z_0 c3_z_1 l3_z m3_z
  go_wp2_with fail
  refine wp_loop_rounds 2 ?_
  rw [rounds_succ]
  go_wp2_with fail
  go_region_held3 (fun w' => Below w4.heap.size w4 w' ∧ ∀ b o, b < w4.heap.size → w'.cell? ⟨b, o, none⟩ = w4.cell? ⟨b, o, none⟩) (first | assumption | exact holdT (by assumption) (by assumption) | exact holdS (by repeat (first | exact Below.refl _ _ | assumption | refine below_drewN ?_ _ | refine Below.setCell ?_ (by first | (simp; done) | (simp; omega)) _ | refine Below.alloc ?_ (by first | (simp; done) | (simp; omega) | omega) _ | refine Below.drew ?_ | refine Below.trans ?_ (Below.mono (by assumption) (by first | (simp; done) | (simp; omega) | omega)))))
    (first | (go_at_call 11; refine (local_calls o p cs cap t _ (HCH4.out.below (by repeat (first | exact Below.refl _ _ | assumption | refine below_drewN ?_ _ | refine Below.setCell ?_ (by first | (simp; done) | (simp; omega)) _ | refine Below.alloc ?_ (by first | (simp; done) | (simp; omega) | omega) _ | refine Below.drew ?_ | refine Below.trans ?_ (Below.mono (by assumption) (by first | (simp; done) | (simp; omega) | omega)))))).mono ?_; rintro e w' ⟨rfl, hb'⟩; rw [HX0.out, R3]))
  obtain ⟨w5, hw5⟩ : ∃ W, W = w' := ⟨_, rfl⟩
  have bb5 : Below w4.heap.size w4 w5 := by rw [hw5]; exact (show Below w4.heap.size w4 w' ∧ ∀ b o, b < w4.heap.size → w'.cell? ⟨b, o, none⟩ = w4.cell? ⟨b, o, none⟩ by assumption).1
  rw [← hw5]
  clear hw5
  have hz5 := bb5.size
  have be5 := BE4.out.trans (bb5.mono BE4.out.size)
  have hch5 := HCH4.out.below bb5
  have c5_z_0 : w5.cell? ⟨w.heap.size, 0, none⟩ = some (.int .i64 o) := cell_keep bb5 c4_z_0
  have c5_z_1 : w5.cell? ⟨w.heap.size, 1, none⟩ = some (.slice p cs.length cap) := cell_keep bb5 c4_z_1
  have l5_z : w.heap.size < w5.heap.size := by omega
  have m5_z : w.heap.size < w5.heap.size + 1 := by omega
  have x5_0 := cell_keep bb5 x4_0
  have g5 : g < w5.heap.size := by omega
  have BE5 := Lib.hid be5
  have HCH5 := Lib.hid hch5
  clear be5 hch5 bb5 BE4 HCH4 c4_z_0 c4_z_1 l4_z m4_z x4_0 g4
  go_wp2_with fail
  go_quiet (fail)
  obtain ⟨w6, hw6⟩ : ∃ W, W = w5.drewN nq := ⟨_, rfl⟩
  have bb6 : Below w5.heap.size w5 w6 := by rw [hw6]; exact below_drewN (Below.refl _ _) _
  rw [← hw6]
  clear hw6
  have hz6 := bb6.size
  have be6 := BE5.out.trans (bb6.mono BE5.out.size)
  have hch6 := HCH5.out.below bb6
  have c6_z_0 : w6.cell? ⟨w.heap.size, 0, none⟩ = some (.int .i64 o) := cell_keep bb6 c5_z_0
  have c6_z_1 : w6.cell? ⟨w.heap.size, 1, none⟩ = some (.slice p cs.length cap) := cell_keep bb6 c5_z_1
  have l6_z : w.heap.size < w6.heap.size := by omega
  have m6_z : w.heap.size < w6.heap.size + 1 := by omega
  have x6_0 := cell_keep bb6 x5_0
  have g6 : g < w6.heap.size := by omega
  have BE6 := Lib.hid be6
  have HCH6 := Lib.hid hch6
  clear be6 hch6 bb6 BE5 HCH5 c5_z_0 c5_z_1 l5_z m5_z x5_0 g5
  go_wp2_with fail
  rw [rounds_succ]
  go_wp2_with fail
  go_ret
  exact ⟨rfl, by have q := BE6.out; repeat (first | exact q | refine Below.alloc ?_ (by first | omega | (simp; omega)) _ | refine below_drewN ?_ _ | refine Below.drew ?_)⟩
set_option maxRecDepth 100000 in
set_option maxHeartbeats 1600000 in
theorem inverse_fst (o : Int) (p : Option Addr) (cs : List (Int × Int)) (cap : Nat) (r t y a b : Int) (w : World) (hcg : Chg w p cs) (h0 : 0 ≤ r) (h1 : r ≤ 4294967295) (ht : r % 105190560 = t) (hn : cs.length ≤ 100) (hv : Zn.localS o cs t = (a, b, 0)) (hi : Zn.instS o cs a b = [t, y]) (hx0 : Zn.localS o cs t = (a, b, 0)) (hx1 : Zn.localS o cs y = (a, b, 0)) (hle : decide (y ≤ t) = false) :
    Calls Try.prog 4 #[.agg #[.int .i64 o, .slice p cs.length cap], .int .u32 r] w fun e w' => e = .returned (.bool true) ∧ Below w.heap.size w w' := by
  have HCH0 := Lib.hid hcg
  have HT := Lib.hid ht
  clear hcg ht
  have HV := Lib.hid hv
  have HI := Lib.hid hi
  have HX0 := Lib.hid hx0
  have HX1 := Lib.hid hx1
  clear hv hi hx0 hx1
  go_enter Try.func4, Try.ntmps4
  go_wp2_with fail
  refine (head_any _).mono ?_
  rintro e w1 ⟨rfl, hb1⟩
  have hz1 := hb1.size
  (try simp at hz1)
  have bb1 : Below w.heap.size w w1 := (by repeat (first | exact Below.refl _ _ | assumption | refine below_drewN ?_ _ | refine Below.setCell ?_ (by first | (simp; done) | (simp; omega)) _ | refine Below.alloc ?_ (by first | (simp; done) | (simp; omega) | omega) _ | refine Below.drew ?_ | refine Below.trans ?_ (Below.mono (by assumption) (by first | (simp; done) | (simp; omega) | omega))))
  have be1 : Below w.heap.size w w1 := bb1
  have hch1 := HCH0.out.below bb1
  have c1_z_0 : w1.cell? ⟨w.heap.size, 0, none⟩ = some (.int .i64 o) := cell_keep hb1 (by go_simp)
  have c1_z_1 : w1.cell? ⟨w.heap.size, 1, none⟩ = some (.slice p cs.length cap) := cell_keep hb1 (by go_simp)
  have l1_z : w.heap.size < w1.heap.size := by omega
  have m1_z : w.heap.size < w1.heap.size + 1 := by omega
  have BE1 := Lib.hid be1
  have HCH1 := Lib.hid hch1
  clear be1 hch1 bb1 hb1 HCH0
  go_wp2_with fail
  refine (few_yes o p cs cap _ hn).mono ?_
  rintro e w2 ⟨rfl, hb2⟩
  have hz2 := hb2.size
  (try simp at hz2)
  have bb2 : Below w1.heap.size w1 w2 := (by repeat (first | exact Below.refl _ _ | assumption | refine below_drewN ?_ _ | refine Below.setCell ?_ (by first | (simp; done) | (simp; omega)) _ | refine Below.alloc ?_ (by first | (simp; done) | (simp; omega) | omega) _ | refine Below.drew ?_ | refine Below.trans ?_ (Below.mono (by assumption) (by first | (simp; done) | (simp; omega) | omega))))
  have be2 : Below w.heap.size w w2 := BE1.out.trans (bb2.mono BE1.out.size)
  have hch2 := HCH1.out.below bb2
  have c2_z_0 : w2.cell? ⟨w.heap.size, 0, none⟩ = some (.int .i64 o) := cell_keep bb2 c1_z_0
  have c2_z_1 : w2.cell? ⟨w.heap.size, 1, none⟩ = some (.slice p cs.length cap) := cell_keep bb2 c1_z_1
  have l2_z : w.heap.size < w2.heap.size := by omega
  have m2_z : w.heap.size < w2.heap.size + 1 := by omega
  have BE2 := Lib.hid be2
  have HCH2 := Lib.hid hch2
  clear be2 hch2 bb2 hb2 BE1 HCH1 c1_z_0 c1_z_1 l1_z m1_z
  go_wp2_with fail
  simp only [HT.out]
  refine (local_calls o p cs cap t _ (HCH2.out.below (by repeat (first | exact Below.refl _ _ | assumption | refine below_drewN ?_ _ | refine Below.setCell ?_ (by first | (simp; done) | (simp; omega)) _ | refine Below.alloc ?_ (by first | (simp; done) | (simp; omega) | omega) _ | refine Below.drew ?_ | refine Below.trans ?_ (Below.mono (by assumption) (by first | (simp; done) | (simp; omega) | omega)))))).mono ?_
  rintro e w3 ⟨rfl, hb3⟩
  rw [HV.out, R3]
  have hz3 := hb3.size
  (try simp at hz3)
  have bb3 : Below w2.heap.size w2 w3 := (by repeat (first | exact Below.refl _ _ | assumption | refine below_drewN ?_ _ | refine Below.setCell ?_ (by first | (simp; done) | (simp; omega)) _ | refine Below.alloc ?_ (by first | (simp; done) | (simp; omega) | omega) _ | refine Below.drew ?_ | refine Below.trans ?_ (Below.mono (by assumption) (by first | (simp; done) | (simp; omega) | omega))))
  have be3 : Below w.heap.size w w3 := BE2.out.trans (bb3.mono BE2.out.size)
  have hch3 := HCH2.out.below bb3
  have c3_z_0 : w3.cell? ⟨w.heap.size, 0, none⟩ = some (.int .i64 o) := cell_keep bb3 c2_z_0
  have c3_z_1 : w3.cell? ⟨w.heap.size, 1, none⟩ = some (.slice p cs.length cap) := cell_keep bb3 c2_z_1
  have l3_z : w.heap.size < w3.heap.size := by omega
  have m3_z : w.heap.size < w3.heap.size + 1 := by omega
  have BE3 := Lib.hid be3
  have HCH3 := Lib.hid hch3
  clear be3 hch3 bb3 hb3 BE2 HCH2 c2_z_0 c2_z_1 l2_z m2_z
  go_wp2_with fail
  refine (instants_calls o p cs cap a b _ (HCH3.out.below (by repeat (first | exact Below.refl _ _ | assumption | refine below_drewN ?_ _ | refine Below.setCell ?_ (by first | (simp; done) | (simp; omega)) _ | refine Below.alloc ?_ (by first | (simp; done) | (simp; omega) | omega) _ | refine Below.drew ?_ | refine Below.trans ?_ (Below.mono (by assumption) (by first | (simp; done) | (simp; omega) | omega)))))).mono ?_
  rintro e w4 ⟨v, rfl, hi, hb4⟩
  have hz4 := hb4.size
  (try simp at hz4)
  have bb4 : Below w3.heap.size w3 w4 := (by repeat (first | exact Below.refl _ _ | assumption | refine below_drewN ?_ _ | refine Below.setCell ?_ (by first | (simp; done) | (simp; omega)) _ | refine Below.alloc ?_ (by first | (simp; done) | (simp; omega) | omega) _ | refine Below.drew ?_ | refine Below.trans ?_ (Below.mono (by assumption) (by first | (simp; done) | (simp; omega) | omega))))
  have be4 : Below w.heap.size w w4 := BE3.out.trans (bb4.mono BE3.out.size)
  have hch4 := HCH3.out.below bb4
  have c4_z_0 : w4.cell? ⟨w.heap.size, 0, none⟩ = some (.int .i64 o) := cell_keep bb4 c3_z_0
  have c4_z_1 : w4.cell? ⟨w.heap.size, 1, none⟩ = some (.slice p cs.length cap) := cell_keep bb4 c3_z_1
  have l4_z : w.heap.size < w4.heap.size := by omega
  have m4_z : w.heap.size < w4.heap.size + 1 := by omega
  rw [HI.out] at hi
  obtain ⟨q, cap2, rfl, hi⟩ := hi
  obtain ⟨g, rfl, hj⟩ := hi.resolve_left (by simp)
  have x4_0 : w4.cell? ⟨g, 0, none⟩ = some (.int .i64 t) := hj 0 (by simp)
  have x4_1 : w4.cell? ⟨g, 1, none⟩ = some (.int .i64 y) := hj 1 (by simp)
  have g4 : g < w4.heap.size := Same.lt_of_cell x4_0
  clear hi hj
  simp only [List.length_cons, List.length_nil, Nat.zero_add, Nat.reduceAdd]
  have BE4 := Lib.hid be4
  have HCH4 := Lib.hid hch4
  clear be4 hch4 bb4 hb4 BE3 HCH3 c3_z_0 c3_z_1 l3_z m3_z
  go_wp2_with fail
  refine wp_loop_rounds 3 ?_
  rw [rounds_succ]
  go_wp2_with fail
  go_region_held3 (fun w' => Below w4.heap.size w4 w' ∧ ∀ b o, b < w4.heap.size → w'.cell? ⟨b, o, none⟩ = w4.cell? ⟨b, o, none⟩) (first | assumption | exact holdT (by assumption) (by assumption) | exact holdS (by repeat (first | exact Below.refl _ _ | assumption | refine below_drewN ?_ _ | refine Below.setCell ?_ (by first | (simp; done) | (simp; omega)) _ | refine Below.alloc ?_ (by first | (simp; done) | (simp; omega) | omega) _ | refine Below.drew ?_ | refine Below.trans ?_ (Below.mono (by assumption) (by first | (simp; done) | (simp; omega) | omega)))))
    (first | (go_at_call 11; refine (local_calls o p cs cap t _ (HCH4.out.below (by repeat (first | exact Below.refl _ _ | assumption | refine below_drewN ?_ _ | refine Below.setCell ?_ (by first | (simp; done) | (simp; omega)) _ | refine Below.alloc ?_ (by first | (simp; done) | (simp; omega) | omega) _ | refine Below.drew ?_ | refine Below.trans ?_ (Below.mono (by assumption) (by first | (simp; done) | (simp; omega) | omega)))))).mono ?_; rintro e w' ⟨rfl, hb'⟩; rw [HX0.out, R3]))
  obtain ⟨w5, hw5⟩ : ∃ W, W = w' := ⟨_, rfl⟩
  have bb5 : Below w4.heap.size w4 w5 := by rw [hw5]; exact (show Below w4.heap.size w4 w' ∧ ∀ b o, b < w4.heap.size → w'.cell? ⟨b, o, none⟩ = w4.cell? ⟨b, o, none⟩ by assumption).1
  rw [← hw5]
  clear hw5
  have hz5 := bb5.size
  have be5 := BE4.out.trans (bb5.mono BE4.out.size)
  have hch5 := HCH4.out.below bb5
  have c5_z_0 : w5.cell? ⟨w.heap.size, 0, none⟩ = some (.int .i64 o) := cell_keep bb5 c4_z_0
  have c5_z_1 : w5.cell? ⟨w.heap.size, 1, none⟩ = some (.slice p cs.length cap) := cell_keep bb5 c4_z_1
  have l5_z : w.heap.size < w5.heap.size := by omega
  have m5_z : w.heap.size < w5.heap.size + 1 := by omega
  have x5_0 := cell_keep bb5 x4_0
  have x5_1 := cell_keep bb5 x4_1
  have g5 : g < w5.heap.size := by omega
  have BE5 := Lib.hid be5
  have HCH5 := Lib.hid hch5
  clear be5 hch5 bb5 BE4 HCH4 c4_z_0 c4_z_1 l4_z m4_z x4_0 x4_1 g4
  go_wp2_with fail
  go_quiet (fail)
  obtain ⟨w6, hw6⟩ : ∃ W, W = w5.drewN nq := ⟨_, rfl⟩
  have bb6 : Below w5.heap.size w5 w6 := by rw [hw6]; exact below_drewN (Below.refl _ _) _
  rw [← hw6]
  clear hw6
  have hz6 := bb6.size
  have be6 := BE5.out.trans (bb6.mono BE5.out.size)
  have hch6 := HCH5.out.below bb6
  have c6_z_0 : w6.cell? ⟨w.heap.size, 0, none⟩ = some (.int .i64 o) := cell_keep bb6 c5_z_0
  have c6_z_1 : w6.cell? ⟨w.heap.size, 1, none⟩ = some (.slice p cs.length cap) := cell_keep bb6 c5_z_1
  have l6_z : w.heap.size < w6.heap.size := by omega
  have m6_z : w.heap.size < w6.heap.size + 1 := by omega
  have x6_0 := cell_keep bb6 x5_0
  have x6_1 := cell_keep bb6 x5_1
  have g6 : g < w6.heap.size := by omega
  have BE6 := Lib.hid be6
  have HCH6 := Lib.hid hch6
  clear be6 hch6 bb6 BE5 HCH5 c5_z_0 c5_z_1 l5_z m5_z x5_0 x5_1 g5
  go_wp2_with fail
  rw [rounds_succ]
  go_wp2_with fail
  go_region_held3 (fun w' => Below w6.heap.size w6 w' ∧ ∀ b o, b < w6.heap.size → w'.cell? ⟨b, o, none⟩ = w6.cell? ⟨b, o, none⟩) (first | assumption | exact holdT (by assumption) (by assumption) | exact holdS (by repeat (first | exact Below.refl _ _ | assumption | refine below_drewN ?_ _ | refine Below.setCell ?_ (by first | (simp; done) | (simp; omega)) _ | refine Below.alloc ?_ (by first | (simp; done) | (simp; omega) | omega) _ | refine Below.drew ?_ | refine Below.trans ?_ (Below.mono (by assumption) (by first | (simp; done) | (simp; omega) | omega)))))
    (first | (go_at_call 11; refine (local_calls o p cs cap y _ (HCH6.out.below (by repeat (first | exact Below.refl _ _ | assumption | refine below_drewN ?_ _ | refine Below.setCell ?_ (by first | (simp; done) | (simp; omega)) _ | refine Below.alloc ?_ (by first | (simp; done) | (simp; omega) | omega) _ | refine Below.drew ?_ | refine Below.trans ?_ (Below.mono (by assumption) (by first | (simp; done) | (simp; omega) | omega)))))).mono ?_; rintro e w' ⟨rfl, hb'⟩; rw [HX1.out, R3]))
  obtain ⟨w7, hw7⟩ : ∃ W, W = w' := ⟨_, rfl⟩
  have bb7 : Below w6.heap.size w6 w7 := by rw [hw7]; exact (show Below w6.heap.size w6 w' ∧ ∀ b o, b < w6.heap.size → w'.cell? ⟨b, o, none⟩ = w6.cell? ⟨b, o, none⟩ by assumption).1
  rw [← hw7]
  clear hw7
  have hz7 := bb7.size
  have be7 := BE6.out.trans (bb7.mono BE6.out.size)
  have hch7 := HCH6.out.below bb7
  have c7_z_0 : w7.cell? ⟨w.heap.size, 0, none⟩ = some (.int .i64 o) := cell_keep bb7 c6_z_0
  have c7_z_1 : w7.cell? ⟨w.heap.size, 1, none⟩ = some (.slice p cs.length cap) := cell_keep bb7 c6_z_1
  have l7_z : w.heap.size < w7.heap.size := by omega
  have m7_z : w.heap.size < w7.heap.size + 1 := by omega
  have x7_0 := cell_keep bb7 x6_0
  have x7_1 := cell_keep bb7 x6_1
  have g7 : g < w7.heap.size := by omega
  have BE7 := Lib.hid be7
  have HCH7 := Lib.hid hch7
  clear be7 hch7 bb7 BE6 HCH6 c6_z_0 c6_z_1 l6_z m6_z x6_0 x6_1 g6
  go_wp2_with fail
  go_quiet (fail)
  obtain ⟨w8, hw8⟩ : ∃ W, W = w7.drewN nq := ⟨_, rfl⟩
  have bb8 : Below w7.heap.size w7 w8 := by rw [hw8]; exact below_drewN (Below.refl _ _) _
  rw [← hw8]
  clear hw8
  have hz8 := bb8.size
  have be8 := BE7.out.trans (bb8.mono BE7.out.size)
  have hch8 := HCH7.out.below bb8
  have c8_z_0 : w8.cell? ⟨w.heap.size, 0, none⟩ = some (.int .i64 o) := cell_keep bb8 c7_z_0
  have c8_z_1 : w8.cell? ⟨w.heap.size, 1, none⟩ = some (.slice p cs.length cap) := cell_keep bb8 c7_z_1
  have l8_z : w.heap.size < w8.heap.size := by omega
  have m8_z : w.heap.size < w8.heap.size + 1 := by omega
  have x8_0 := cell_keep bb8 x7_0
  have x8_1 := cell_keep bb8 x7_1
  have g8 : g < w8.heap.size := by omega
  have BE8 := Lib.hid be8
  have HCH8 := Lib.hid hch8
  clear be8 hch8 bb8 BE7 HCH7 c7_z_0 c7_z_1 l7_z m7_z x7_0 x7_1 g7
  go_wp2_with fail
  rw [rounds_succ]
  go_wp2_with fail
  go_ret
  exact ⟨rfl, by have q := BE8.out; repeat (first | exact q | refine Below.alloc ?_ (by first | omega | (simp; omega)) _ | refine below_drewN ?_ _ | refine Below.drew ?_)⟩
set_option maxRecDepth 100000 in
set_option maxHeartbeats 1600000 in
theorem inverse_snd (o : Int) (p : Option Addr) (cs : List (Int × Int)) (cap : Nat) (r t x a b : Int) (w : World) (hcg : Chg w p cs) (h0 : 0 ≤ r) (h1 : r ≤ 4294967295) (ht : r % 105190560 = t) (hn : cs.length ≤ 100) (hv : Zn.localS o cs t = (a, b, 0)) (hi : Zn.instS o cs a b = [x, t]) (hx0 : Zn.localS o cs x = (a, b, 0)) (hx1 : Zn.localS o cs t = (a, b, 0)) (hne : (x == t) = false) (hle : decide (t ≤ x) = false) :
    Calls Try.prog 4 #[.agg #[.int .i64 o, .slice p cs.length cap], .int .u32 r] w fun e w' => e = .returned (.bool true) ∧ Below w.heap.size w w' := by
  have HCH0 := Lib.hid hcg
  have HT := Lib.hid ht
  clear hcg ht
  have HV := Lib.hid hv
  have HI := Lib.hid hi
  have HX0 := Lib.hid hx0
  have HX1 := Lib.hid hx1
  clear hv hi hx0 hx1
  go_enter Try.func4, Try.ntmps4
  go_wp2_with fail
  refine (head_any _).mono ?_
  rintro e w1 ⟨rfl, hb1⟩
  have hz1 := hb1.size
  (try simp at hz1)
  have bb1 : Below w.heap.size w w1 := (by repeat (first | exact Below.refl _ _ | assumption | refine below_drewN ?_ _ | refine Below.setCell ?_ (by first | (simp; done) | (simp; omega)) _ | refine Below.alloc ?_ (by first | (simp; done) | (simp; omega) | omega) _ | refine Below.drew ?_ | refine Below.trans ?_ (Below.mono (by assumption) (by first | (simp; done) | (simp; omega) | omega))))
  have be1 : Below w.heap.size w w1 := bb1
  have hch1 := HCH0.out.below bb1
  have c1_z_0 : w1.cell? ⟨w.heap.size, 0, none⟩ = some (.int .i64 o) := cell_keep hb1 (by go_simp)
  have c1_z_1 : w1.cell? ⟨w.heap.size, 1, none⟩ = some (.slice p cs.length cap) := cell_keep hb1 (by go_simp)
  have l1_z : w.heap.size < w1.heap.size := by omega
  have m1_z : w.heap.size < w1.heap.size + 1 := by omega
  have BE1 := Lib.hid be1
  have HCH1 := Lib.hid hch1
  clear be1 hch1 bb1 hb1 HCH0
  go_wp2_with fail
  refine (few_yes o p cs cap _ hn).mono ?_
  rintro e w2 ⟨rfl, hb2⟩
  have hz2 := hb2.size
  (try simp at hz2)
  have bb2 : Below w1.heap.size w1 w2 := (by repeat (first | exact Below.refl _ _ | assumption | refine below_drewN ?_ _ | refine Below.setCell ?_ (by first | (simp; done) | (simp; omega)) _ | refine Below.alloc ?_ (by first | (simp; done) | (simp; omega) | omega) _ | refine Below.drew ?_ | refine Below.trans ?_ (Below.mono (by assumption) (by first | (simp; done) | (simp; omega) | omega))))
  have be2 : Below w.heap.size w w2 := BE1.out.trans (bb2.mono BE1.out.size)
  have hch2 := HCH1.out.below bb2
  have c2_z_0 : w2.cell? ⟨w.heap.size, 0, none⟩ = some (.int .i64 o) := cell_keep bb2 c1_z_0
  have c2_z_1 : w2.cell? ⟨w.heap.size, 1, none⟩ = some (.slice p cs.length cap) := cell_keep bb2 c1_z_1
  have l2_z : w.heap.size < w2.heap.size := by omega
  have m2_z : w.heap.size < w2.heap.size + 1 := by omega
  have BE2 := Lib.hid be2
  have HCH2 := Lib.hid hch2
  clear be2 hch2 bb2 hb2 BE1 HCH1 c1_z_0 c1_z_1 l1_z m1_z
  go_wp2_with fail
  simp only [HT.out]
  refine (local_calls o p cs cap t _ (HCH2.out.below (by repeat (first | exact Below.refl _ _ | assumption | refine below_drewN ?_ _ | refine Below.setCell ?_ (by first | (simp; done) | (simp; omega)) _ | refine Below.alloc ?_ (by first | (simp; done) | (simp; omega) | omega) _ | refine Below.drew ?_ | refine Below.trans ?_ (Below.mono (by assumption) (by first | (simp; done) | (simp; omega) | omega)))))).mono ?_
  rintro e w3 ⟨rfl, hb3⟩
  rw [HV.out, R3]
  have hz3 := hb3.size
  (try simp at hz3)
  have bb3 : Below w2.heap.size w2 w3 := (by repeat (first | exact Below.refl _ _ | assumption | refine below_drewN ?_ _ | refine Below.setCell ?_ (by first | (simp; done) | (simp; omega)) _ | refine Below.alloc ?_ (by first | (simp; done) | (simp; omega) | omega) _ | refine Below.drew ?_ | refine Below.trans ?_ (Below.mono (by assumption) (by first | (simp; done) | (simp; omega) | omega))))
  have be3 : Below w.heap.size w w3 := BE2.out.trans (bb3.mono BE2.out.size)
  have hch3 := HCH2.out.below bb3
  have c3_z_0 : w3.cell? ⟨w.heap.size, 0, none⟩ = some (.int .i64 o) := cell_keep bb3 c2_z_0
  have c3_z_1 : w3.cell? ⟨w.heap.size, 1, none⟩ = some (.slice p cs.length cap) := cell_keep bb3 c2_z_1
  have l3_z : w.heap.size < w3.heap.size := by omega
  have m3_z : w.heap.size < w3.heap.size + 1 := by omega
  have BE3 := Lib.hid be3
  have HCH3 := Lib.hid hch3
  clear be3 hch3 bb3 hb3 BE2 HCH2 c2_z_0 c2_z_1 l2_z m2_z
  go_wp2_with fail
  refine (instants_calls o p cs cap a b _ (HCH3.out.below (by repeat (first | exact Below.refl _ _ | assumption | refine below_drewN ?_ _ | refine Below.setCell ?_ (by first | (simp; done) | (simp; omega)) _ | refine Below.alloc ?_ (by first | (simp; done) | (simp; omega) | omega) _ | refine Below.drew ?_ | refine Below.trans ?_ (Below.mono (by assumption) (by first | (simp; done) | (simp; omega) | omega)))))).mono ?_
  rintro e w4 ⟨v, rfl, hi, hb4⟩
  have hz4 := hb4.size
  (try simp at hz4)
  have bb4 : Below w3.heap.size w3 w4 := (by repeat (first | exact Below.refl _ _ | assumption | refine below_drewN ?_ _ | refine Below.setCell ?_ (by first | (simp; done) | (simp; omega)) _ | refine Below.alloc ?_ (by first | (simp; done) | (simp; omega) | omega) _ | refine Below.drew ?_ | refine Below.trans ?_ (Below.mono (by assumption) (by first | (simp; done) | (simp; omega) | omega))))
  have be4 : Below w.heap.size w w4 := BE3.out.trans (bb4.mono BE3.out.size)
  have hch4 := HCH3.out.below bb4
  have c4_z_0 : w4.cell? ⟨w.heap.size, 0, none⟩ = some (.int .i64 o) := cell_keep bb4 c3_z_0
  have c4_z_1 : w4.cell? ⟨w.heap.size, 1, none⟩ = some (.slice p cs.length cap) := cell_keep bb4 c3_z_1
  have l4_z : w.heap.size < w4.heap.size := by omega
  have m4_z : w.heap.size < w4.heap.size + 1 := by omega
  rw [HI.out] at hi
  obtain ⟨q, cap2, rfl, hi⟩ := hi
  obtain ⟨g, rfl, hj⟩ := hi.resolve_left (by simp)
  have x4_0 : w4.cell? ⟨g, 0, none⟩ = some (.int .i64 x) := hj 0 (by simp)
  have x4_1 : w4.cell? ⟨g, 1, none⟩ = some (.int .i64 t) := hj 1 (by simp)
  have g4 : g < w4.heap.size := Same.lt_of_cell x4_0
  clear hi hj
  simp only [List.length_cons, List.length_nil, Nat.zero_add, Nat.reduceAdd]
  have BE4 := Lib.hid be4
  have HCH4 := Lib.hid hch4
  clear be4 hch4 bb4 hb4 BE3 HCH3 c3_z_0 c3_z_1 l3_z m3_z
  go_wp2_with fail
  refine wp_loop_rounds 3 ?_
  rw [rounds_succ]
  go_wp2_with fail
  go_region_held3 (fun w' => Below w4.heap.size w4 w' ∧ ∀ b o, b < w4.heap.size → w'.cell? ⟨b, o, none⟩ = w4.cell? ⟨b, o, none⟩) (first | assumption | exact holdT (by assumption) (by assumption) | exact holdS (by repeat (first | exact Below.refl _ _ | assumption | refine below_drewN ?_ _ | refine Below.setCell ?_ (by first | (simp; done) | (simp; omega)) _ | refine Below.alloc ?_ (by first | (simp; done) | (simp; omega) | omega) _ | refine Below.drew ?_ | refine Below.trans ?_ (Below.mono (by assumption) (by first | (simp; done) | (simp; omega) | omega)))))
    (first | (go_at_call 11; refine (local_calls o p cs cap x _ (HCH4.out.below (by repeat (first | exact Below.refl _ _ | assumption | refine below_drewN ?_ _ | refine Below.setCell ?_ (by first | (simp; done) | (simp; omega)) _ | refine Below.alloc ?_ (by first | (simp; done) | (simp; omega) | omega) _ | refine Below.drew ?_ | refine Below.trans ?_ (Below.mono (by assumption) (by first | (simp; done) | (simp; omega) | omega)))))).mono ?_; rintro e w' ⟨rfl, hb'⟩; rw [HX0.out, R3]))
  obtain ⟨w5, hw5⟩ : ∃ W, W = w' := ⟨_, rfl⟩
  have bb5 : Below w4.heap.size w4 w5 := by rw [hw5]; exact (show Below w4.heap.size w4 w' ∧ ∀ b o, b < w4.heap.size → w'.cell? ⟨b, o, none⟩ = w4.cell? ⟨b, o, none⟩ by assumption).1
  rw [← hw5]
  clear hw5
  have hz5 := bb5.size
  have be5 := BE4.out.trans (bb5.mono BE4.out.size)
  have hch5 := HCH4.out.below bb5
  have c5_z_0 : w5.cell? ⟨w.heap.size, 0, none⟩ = some (.int .i64 o) := cell_keep bb5 c4_z_0
  have c5_z_1 : w5.cell? ⟨w.heap.size, 1, none⟩ = some (.slice p cs.length cap) := cell_keep bb5 c4_z_1
  have l5_z : w.heap.size < w5.heap.size := by omega
  have m5_z : w.heap.size < w5.heap.size + 1 := by omega
  have x5_0 := cell_keep bb5 x4_0
  have x5_1 := cell_keep bb5 x4_1
  have g5 : g < w5.heap.size := by omega
  have BE5 := Lib.hid be5
  have HCH5 := Lib.hid hch5
  clear be5 hch5 bb5 BE4 HCH4 c4_z_0 c4_z_1 l4_z m4_z x4_0 x4_1 g4
  go_wp2_with fail
  go_quiet (fail)
  obtain ⟨w6, hw6⟩ : ∃ W, W = w5.drewN nq := ⟨_, rfl⟩
  have bb6 : Below w5.heap.size w5 w6 := by rw [hw6]; exact below_drewN (Below.refl _ _) _
  rw [← hw6]
  clear hw6
  have hz6 := bb6.size
  have be6 := BE5.out.trans (bb6.mono BE5.out.size)
  have hch6 := HCH5.out.below bb6
  have c6_z_0 : w6.cell? ⟨w.heap.size, 0, none⟩ = some (.int .i64 o) := cell_keep bb6 c5_z_0
  have c6_z_1 : w6.cell? ⟨w.heap.size, 1, none⟩ = some (.slice p cs.length cap) := cell_keep bb6 c5_z_1
  have l6_z : w.heap.size < w6.heap.size := by omega
  have m6_z : w.heap.size < w6.heap.size + 1 := by omega
  have x6_0 := cell_keep bb6 x5_0
  have x6_1 := cell_keep bb6 x5_1
  have g6 : g < w6.heap.size := by omega
  have BE6 := Lib.hid be6
  have HCH6 := Lib.hid hch6
  clear be6 hch6 bb6 BE5 HCH5 c5_z_0 c5_z_1 l5_z m5_z x5_0 x5_1 g5
  go_wp2_with fail
  rw [rounds_succ]
  go_wp2_with fail
  go_region_held3 (fun w' => Below w6.heap.size w6 w' ∧ ∀ b o, b < w6.heap.size → w'.cell? ⟨b, o, none⟩ = w6.cell? ⟨b, o, none⟩) (first | assumption | exact holdT (by assumption) (by assumption) | exact holdS (by repeat (first | exact Below.refl _ _ | assumption | refine below_drewN ?_ _ | refine Below.setCell ?_ (by first | (simp; done) | (simp; omega)) _ | refine Below.alloc ?_ (by first | (simp; done) | (simp; omega) | omega) _ | refine Below.drew ?_ | refine Below.trans ?_ (Below.mono (by assumption) (by first | (simp; done) | (simp; omega) | omega)))))
    (first | (go_at_call 11; refine (local_calls o p cs cap t _ (HCH6.out.below (by repeat (first | exact Below.refl _ _ | assumption | refine below_drewN ?_ _ | refine Below.setCell ?_ (by first | (simp; done) | (simp; omega)) _ | refine Below.alloc ?_ (by first | (simp; done) | (simp; omega) | omega) _ | refine Below.drew ?_ | refine Below.trans ?_ (Below.mono (by assumption) (by first | (simp; done) | (simp; omega) | omega)))))).mono ?_; rintro e w' ⟨rfl, hb'⟩; rw [HX1.out, R3]))
  obtain ⟨w7, hw7⟩ : ∃ W, W = w' := ⟨_, rfl⟩
  have bb7 : Below w6.heap.size w6 w7 := by rw [hw7]; exact (show Below w6.heap.size w6 w' ∧ ∀ b o, b < w6.heap.size → w'.cell? ⟨b, o, none⟩ = w6.cell? ⟨b, o, none⟩ by assumption).1
  rw [← hw7]
  clear hw7
  have hz7 := bb7.size
  have be7 := BE6.out.trans (bb7.mono BE6.out.size)
  have hch7 := HCH6.out.below bb7
  have c7_z_0 : w7.cell? ⟨w.heap.size, 0, none⟩ = some (.int .i64 o) := cell_keep bb7 c6_z_0
  have c7_z_1 : w7.cell? ⟨w.heap.size, 1, none⟩ = some (.slice p cs.length cap) := cell_keep bb7 c6_z_1
  have l7_z : w.heap.size < w7.heap.size := by omega
  have m7_z : w.heap.size < w7.heap.size + 1 := by omega
  have x7_0 := cell_keep bb7 x6_0
  have x7_1 := cell_keep bb7 x6_1
  have g7 : g < w7.heap.size := by omega
  have BE7 := Lib.hid be7
  have HCH7 := Lib.hid hch7
  clear be7 hch7 bb7 BE6 HCH6 c6_z_0 c6_z_1 l6_z m6_z x6_0 x6_1 g6
  go_wp2_with fail
  go_quiet (fail)
  obtain ⟨w8, hw8⟩ : ∃ W, W = w7.drewN nq := ⟨_, rfl⟩
  have bb8 : Below w7.heap.size w7 w8 := by rw [hw8]; exact below_drewN (Below.refl _ _) _
  rw [← hw8]
  clear hw8
  have hz8 := bb8.size
  have be8 := BE7.out.trans (bb8.mono BE7.out.size)
  have hch8 := HCH7.out.below bb8
  have c8_z_0 : w8.cell? ⟨w.heap.size, 0, none⟩ = some (.int .i64 o) := cell_keep bb8 c7_z_0
  have c8_z_1 : w8.cell? ⟨w.heap.size, 1, none⟩ = some (.slice p cs.length cap) := cell_keep bb8 c7_z_1
  have l8_z : w.heap.size < w8.heap.size := by omega
  have m8_z : w.heap.size < w8.heap.size + 1 := by omega
  have x8_0 := cell_keep bb8 x7_0
  have x8_1 := cell_keep bb8 x7_1
  have g8 : g < w8.heap.size := by omega
  have BE8 := Lib.hid be8
  have HCH8 := Lib.hid hch8
  clear be8 hch8 bb8 BE7 HCH7 c7_z_0 c7_z_1 l7_z m7_z x7_0 x7_1 g7
  go_wp2_with fail
  rw [rounds_succ]
  go_wp2_with fail
  go_ret
  exact ⟨rfl, by have q := BE8.out; repeat (first | exact q | refine Below.alloc ?_ (by first | omega | (simp; omega)) _ | refine below_drewN ?_ _ | refine Below.drew ?_)⟩
theorem inverse_law (o : Int) (p : Option Addr) (cs : List (Int × Int)) (cap : Nat) (r : Int) (w : World) (hcg : Chg w p cs) (_ : -9223372036854775808 ≤ o ∧ o ≤ 9223372036854775807) (_ : ∀ c ∈ cs, (-9223372036854775808 ≤ c.1 ∧ c.1 ≤ 9223372036854775807) ∧ (-9223372036854775808 ≤ c.2 ∧ c.2 ≤ 9223372036854775807))
    (h0 : 0 ≤ r) (h1 : r ≤ 4294967295) :
    Calls Try.prog 4 #[.agg #[.int .i64 o, .slice p cs.length cap], .int .u32 r] w fun e w' => e = .returned (.bool true) ∧ Below w.heap.size w w' := by
  by_cases hn : 100 < cs.length
  · exact inverse_many o p cs cap r w hcg hn h0 h1
  have hn' : cs.length ≤ 100 := by omega
  rcases hv : Zn.localS o cs (r % 105190560) with ⟨a, b, e⟩
  by_cases he : e = 0
  · subst he
    obtain ⟨q1, q2, q3, q4⟩ := Zn.inverse hv
    rcases hi : Zn.instS o cs a b with _ | ⟨x, _ | ⟨y, _ | ⟨z, l⟩⟩⟩
    · rw [hi] at q1; cases q1
    · rw [hi] at q1
      obtain rfl : r % 105190560 = x := by simpa using q1
      exact inverse_one o p cs cap r _ _ _ w hcg h0 h1 rfl hn' hv hi hv
    · rw [hi] at q1 q3 q4
      have hxy : x < y := by
        rw [List.pairwise_cons] at q4
        exact q4.1 y (by simp)
      rcases (by simpa using q1 : r % 105190560 = x ∨ r % 105190560 = y) with h | h
      · subst h
        exact inverse_fst o p cs cap r _ y _ _ w hcg h0 h1 rfl hn' hv hi hv (q3 y (by simp)).1 (decide_eq_false (by omega))
      · subst h
        exact inverse_snd o p cs cap r _ x _ _ w hcg h0 h1 rfl hn' hv hi (q3 x (by simp)).1 hv (beq_eq_false_iff_ne.2 (by omega)) (decide_eq_false (by omega))
    · rw [hi] at q2
      simp at q2
  · have h2 : a = 0 ∧ b = 0 := by
      unfold Zn.localS at hv
      split at hv
      · split at hv
        · simp only [Prod.mk.injEq] at hv; exact absurd hv.2.2.symm he
        · simp only [Prod.mk.injEq] at hv; exact ⟨hv.1.symm, hv.2.1.symm⟩
      · simp only [Prod.mk.injEq] at hv; exact ⟨hv.1.symm, hv.2.1.symm⟩
    obtain ⟨rfl, rfl⟩ := h2
    exact inverse_err o p cs cap r _ e w hcg h0 h1 rfl hn' hv (by simpa using he)
end Go.Proofs.Ytcacmigfpahicaa

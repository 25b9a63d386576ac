/- The walks of Few, Ints and of the fixed examples. -/
import Derived.Test.YtcacmigfpahicaaZnG
namespace Go.Proofs.Ytcacmigfpahicaa
open Go.RowKit Go.Shelf

theorem below_drewN {B : Nat} {a w : World} (h : Below B a w) (n : Nat) : Below B a (w.drewN n) := ⟨h.os, h.tape, h.output, h.size, h.block⟩
theorem few_yes (o : Int) (p : Option Addr) (cs : List (Int × Int)) (cap : Nat) (w : World) (h : cs.length ≤ 100) :
    Calls Try.prog 10 #[.agg #[.int .i64 o, .slice p cs.length cap]] w fun e w' => e = .returned (.bool true) ∧ Below w.heap.size w w' := by
  go_enter Try.func10, Try.ntmps10
  go_wp2
  go_ret
  exact ⟨by first | rfl | exact ret_bool (decide_eq_true (by omega)) | exact ret_bool (decide_eq_false (by omega)), (by repeat (first | exact Below.refl _ _ | assumption | refine below_drewN ?_ _ | refine Below.setCell ?_ (by first | (simp; done) | (simp; omega)) _ | refine Below.alloc ?_ (by first | (simp; done) | (simp; omega) | omega) _ | refine Below.drew ?_ | refine Below.trans ?_ (Below.mono (by assumption) (by first | (simp; done) | (simp; omega) | omega))))⟩
theorem few_no (o : Int) (p : Option Addr) (cs : List (Int × Int)) (cap : Nat) (w : World) (h : 100 < cs.length) :
    Calls Try.prog 10 #[.agg #[.int .i64 o, .slice p cs.length cap]] w fun e w' => e = .returned (.bool false) ∧ Below w.heap.size w w' := by
  go_enter Try.func10, Try.ntmps10
  go_wp2
  go_ret
  exact ⟨by first | rfl | exact ret_bool (decide_eq_true (by omega)) | exact ret_bool (decide_eq_false (by omega)), (by repeat (first | exact Below.refl _ _ | assumption | refine below_drewN ?_ _ | refine Below.setCell ?_ (by first | (simp; done) | (simp; omega)) _ | refine Below.alloc ?_ (by first | (simp; done) | (simp; omega) | omega) _ | refine Below.drew ?_ | refine Below.trans ?_ (Below.mono (by assumption) (by first | (simp; done) | (simp; omega) | omega))))⟩
set_option maxRecDepth 100000 in
set_option maxHeartbeats 1000000 in
theorem ints_same (va vb : Value) (xs : List Int) (w : World) (hx : xs.length ≤ 1000) (ha : IntsAt w va xs) (hb : IntsAt w vb xs) :
    Calls Try.prog 19 #[va, vb] w fun e w' => e = .returned (.bool true) ∧ Below w.heap.size w w' := by
  obtain ⟨p, cap, rfl, ha⟩ := ha
  obtain ⟨q, cap2, rfl, hb⟩ := hb
  have HA := Lib.hid ha
  have HB := Lib.hid hb
  clear ha hb
  go_enter Try.func19, Try.ntmps19
  go_wp2
  go_loopw [5] (fun i wr => ∃ k : Nat, i = .int .i64 k ∧ k ≤ xs.length ∧ Below w.heap.size w wr) (fun i _ => xs.length - (intOf i).toNat)
  case atStart => exact ⟨0, rfl, Nat.zero_le _, Below.refl _ _⟩
  case round =>
    obtain ⟨k, rfl, hk, hbw⟩ := hrel
    have HW := Lib.hid hbw
    by_cases hlt : k < xs.length
    · have hne : xs ≠ [] := fun h => by rw [h] at hlt; cases hlt
      obtain ⟨b, rfl, h1⟩ := HA.out.resolve_left hne
      obtain ⟨c, rfl, h2⟩ := HB.out.resolve_left hne
      have c1 := cell_keep hbw (h1 k hlt)
      have c2 := cell_keep hbw (h2 k hlt)
      obtain ⟨x, hx2⟩ : ∃ x, x = xs.getD k 0 := ⟨_, rfl⟩
      rw [← hx2] at c1 c2
      have hw : wrap64 ((k : Int) + 1) = (k : Int) + 1 := by unfold wrap64; omega
      clear h1 h2 hx2 hne hbw
      go_wp2_with fail
      go_quiet (fail)
      go_wp2_with fail
      go_roundw
      case rel => exact ⟨k + 1, by simp, by omega, below_drewN HW.out _⟩
      case measure => simp [intOf]; omega
    · clear hbw
      go_wp2
      go_ret
      exact ⟨rfl, HW.out⟩

/-- the zone of the fixed examples -/
def hcs : List (Int × Int) := [(100000, 120), (200000, 60)]
theorem hv1 : Zn.localS 60 hcs 99999 = (69, 699, 0) := by decide
theorem hv2 : Zn.localS 60 hcs 100000 = (69, 760, 0) := by decide
theorem hv3 : Zn.instantS 60 hcs 69 730 false = (100000, 0) := by decide
theorem hv4 : Zn.instS 60 hcs 138 1370 = [199970, 200030] := by decide
theorem hv5 : Zn.spanS 60 hcs 1 = (1380, 2820, 0) := by decide
theorem hv6 : Zn.instantS 60 hcs 0 1440 false = (0, 1) := by decide
theorem hv7 : Zn.localS (-1) [] 0 = (0, 0, 2) := by decide
theorem hv8 : decide (Zn.Ok 60 hcs) = true := by decide
theorem hv9 : Zn.instS 60 hcs 69 730 = [] := by decide
set_option maxRecDepth 100000 in
set_option maxHeartbeats 1600000 in
theorem head_any (w : World) : Calls Try.prog 9 #[] w fun e w' => e = .returned (.bool true) ∧ Below w.heap.size w w' := by
  go_enter Try.func9, Try.ntmps9
  go_wp2_with fail
  have hch0 : Chg ((w.alloc (.cells #[.int .i64 100000, .int .i64 120, .int .i64 200000, .int .i64 60] 46)).alloc (.cells #[.int .i64 60, .slice (some ⟨w.heap.size, 0, none⟩) 2 2] 24)) (some ⟨w.heap.size, 0, none⟩) hcs :=
    .inr ⟨w.heap.size, 0, rfl, fun j hj => by
      have hj2 : j < 2 := hj
      match j, hj2 with
      | 0, _ => exact ⟨by go_simp; rfl, by go_simp; rfl⟩
      | 1, _ => exact ⟨by go_simp; rfl, by go_simp; rfl⟩⟩
  go_wp2_with fail
  refine (local_calls 60 (some ⟨w.heap.size, 0, none⟩) hcs 2 99999 _ hch0).mono ?_
  rintro e w1 ⟨rfl, hb1⟩
  rw [hv1, R3]
  have hz1 := hb1.size
  (try simp at hz1)
  have c1_0 : w1.cell? ⟨w.heap.size + 1, 0, none⟩ = some (.int .i64 60) := cell_keep hb1 (by go_simp)
  have c1_1 : w1.cell? ⟨w.heap.size + 1, 1, none⟩ = some (.slice (some ⟨w.heap.size, 0, none⟩) 2 2) := cell_keep hb1 (by go_simp)
  have be1 : Below w.heap.size w w1 := (by repeat (first | exact Below.refl _ _ | assumption | refine below_drewN ?_ _ | refine Below.setCell ?_ (by first | (simp; done) | (simp; omega)) _ | refine Below.alloc ?_ (by first | (simp; done) | (simp; omega) | omega) _ | refine Below.drew ?_ | refine Below.trans ?_ (Below.mono (by assumption) (by first | (simp; done) | (simp; omega) | omega))))
  have hch1 : Chg w1 (some ⟨w.heap.size, 0, none⟩) hcs := hch0.below hb1
  have lz1 : w.heap.size + 1 < w1.heap.size := by omega
  have lzz1 : w.heap.size + 1 < w1.heap.size + 1 := by omega
  have BE1 := Lib.hid be1
  have HCH1 := Lib.hid hch1
  clear be1 hch1 hb1
  go_wp2_with fail
  refine (local_calls 60 (some ⟨w.heap.size, 0, none⟩) hcs 2 100000 w1 HCH1.out).mono ?_
  rintro e w2 ⟨rfl, hb2⟩
  rw [hv2, R3]
  have hz2 := hb2.size
  (try simp at hz2)
  have bb2 : Below w1.heap.size w1 w2 := (by repeat (first | exact Below.refl _ _ | assumption | refine below_drewN ?_ _ | refine Below.setCell ?_ (by first | (simp; done) | (simp; omega)) _ | refine Below.alloc ?_ (by first | (simp; done) | (simp; omega) | omega) _ | refine Below.drew ?_ | refine Below.trans ?_ (Below.mono (by assumption) (by first | (simp; done) | (simp; omega) | omega))))
  have c2_0 := cell_keep bb2 c1_0
  have c2_1 := cell_keep bb2 c1_1
  have be2 := BE1.out.trans (bb2.mono BE1.out.size)
  have hch2 := HCH1.out.below bb2
  have lz2 : w.heap.size + 1 < w2.heap.size := by omega
  have lzz2 : w.heap.size + 1 < w2.heap.size + 1 := by omega
  have BE2 := Lib.hid be2
  have HCH2 := Lib.hid hch2
  clear be2 hch2 hb2 bb2 c1_0 c1_1 lz1 lzz1 HCH1 BE1
  go_wp2_with fail
  refine (instant_calls 60 (some ⟨w.heap.size, 0, none⟩) hcs 2 69 730 false w2 HCH2.out).mono ?_
  rintro e w3 ⟨rfl, hb3⟩
  rw [hv3, R2]
  have hz3 := hb3.size
  (try simp at hz3)
  have bb3 : Below w2.heap.size w2 w3 := (by repeat (first | exact Below.refl _ _ | assumption | refine below_drewN ?_ _ | refine Below.setCell ?_ (by first | (simp; done) | (simp; omega)) _ | refine Below.alloc ?_ (by first | (simp; done) | (simp; omega) | omega) _ | refine Below.drew ?_ | refine Below.trans ?_ (Below.mono (by assumption) (by first | (simp; done) | (simp; omega) | omega))))
  have c3_0 := cell_keep bb3 c2_0
  have c3_1 := cell_keep bb3 c2_1
  have be3 := BE2.out.trans (bb3.mono BE2.out.size)
  have hch3 := HCH2.out.below bb3
  have lz3 : w.heap.size + 1 < w3.heap.size := by omega
  have lzz3 : w.heap.size + 1 < w3.heap.size + 1 := by omega
  have BE3 := Lib.hid be3
  have HCH3 := Lib.hid hch3
  clear be3 hch3 hb3 bb3 c2_0 c2_1 lz2 lzz2 HCH2 BE2
  go_wp2_with fail
  refine (instants_calls 60 (some ⟨w.heap.size, 0, none⟩) hcs 2 138 1370 w3 HCH3.out).mono ?_
  rintro e w4 ⟨v, rfl, hi, hb4⟩
  have hz4 := hb4.size
  (try simp at hz4)
  have bb4 : Below w3.heap.size w3 w4 := (by repeat (first | exact Below.refl _ _ | assumption | refine below_drewN ?_ _ | refine Below.setCell ?_ (by first | (simp; done) | (simp; omega)) _ | refine Below.alloc ?_ (by first | (simp; done) | (simp; omega) | omega) _ | refine Below.drew ?_ | refine Below.trans ?_ (Below.mono (by assumption) (by first | (simp; done) | (simp; omega) | omega))))
  have c4_0 := cell_keep bb4 c3_0
  have c4_1 := cell_keep bb4 c3_1
  have be4 := BE3.out.trans (bb4.mono BE3.out.size)
  have hch4 := HCH3.out.below bb4
  rw [hv4] at hi
  obtain ⟨q4, cap4, rfl, hi4⟩ := hi
  have hI4 : IntsAt w4 (.slice q4 2 cap4) [199970, 200030] := ⟨q4, cap4, rfl, hi4⟩
  have HI4 := Lib.hid hI4
  clear hi4 hI4
  simp only [List.length_cons, List.length_nil, Nat.zero_add, Nat.reduceAdd]
  have lz4 : w.heap.size + 1 < w4.heap.size := by omega
  have lzz4 : w.heap.size + 1 < w4.heap.size + 1 := by omega
  have BE4 := Lib.hid be4
  have HCH4 := Lib.hid hch4
  clear be4 hch4 hb4 bb4 c3_0 c3_1 lz3 lzz3 HCH3 BE3
  go_wp2_with fail
  refine (span_calls 60 (some ⟨w.heap.size, 0, none⟩) hcs 2 1 w4 HCH4.out).mono ?_
  rintro e w5 ⟨rfl, hb5⟩
  rw [hv5, R3]
  have hz5 := hb5.size
  (try simp at hz5)
  have bb5 : Below w4.heap.size w4 w5 := (by repeat (first | exact Below.refl _ _ | assumption | refine below_drewN ?_ _ | refine Below.setCell ?_ (by first | (simp; done) | (simp; omega)) _ | refine Below.alloc ?_ (by first | (simp; done) | (simp; omega) | omega) _ | refine Below.drew ?_ | refine Below.trans ?_ (Below.mono (by assumption) (by first | (simp; done) | (simp; omega) | omega))))
  have c5_0 := cell_keep bb5 c4_0
  have c5_1 := cell_keep bb5 c4_1
  have be5 := BE4.out.trans (bb5.mono BE4.out.size)
  have hch5 := HCH4.out.below bb5
  have HI5 := Lib.hid (HI4.out.below bb5)
  have lz5 : w.heap.size + 1 < w5.heap.size := by omega
  have lzz5 : w.heap.size + 1 < w5.heap.size + 1 := by omega
  have BE5 := Lib.hid be5
  have HCH5 := Lib.hid hch5
  clear be5 hch5 hb5 bb5 c4_0 c4_1 lz4 lzz4 HCH4 BE4
  go_wp2_with fail
  refine (instant_calls 60 (some ⟨w.heap.size, 0, none⟩) hcs 2 0 1440 false w5 HCH5.out).mono ?_
  rintro e w6 ⟨rfl, hb6⟩
  rw [hv6, R2]
  have hz6 := hb6.size
  (try simp at hz6)
  have bb6 : Below w5.heap.size w5 w6 := (by repeat (first | exact Below.refl _ _ | assumption | refine below_drewN ?_ _ | refine Below.setCell ?_ (by first | (simp; done) | (simp; omega)) _ | refine Below.alloc ?_ (by first | (simp; done) | (simp; omega) | omega) _ | refine Below.drew ?_ | refine Below.trans ?_ (Below.mono (by assumption) (by first | (simp; done) | (simp; omega) | omega))))
  have c6_0 := cell_keep bb6 c5_0
  have c6_1 := cell_keep bb6 c5_1
  have be6 := BE5.out.trans (bb6.mono BE5.out.size)
  have hch6 := HCH5.out.below bb6
  have HI6 := Lib.hid (HI5.out.below bb6)
  have lz6 : w.heap.size + 1 < w6.heap.size := by omega
  have lzz6 : w.heap.size + 1 < w6.heap.size + 1 := by omega
  have BE6 := Lib.hid be6
  have HCH6 := Lib.hid hch6
  clear be6 hch6 hb6 bb6 c5_0 c5_1 lz5 lzz5 HCH5 BE5
  go_wp2_with fail
  refine (local_calls (-1) none [] 0 0 w6 (.inl rfl)).mono ?_
  rintro e w7 ⟨rfl, hb7⟩
  rw [hv7, R3]
  have hz7 := hb7.size
  (try simp at hz7)
  have bb7 : Below w6.heap.size w6 w7 := (by repeat (first | exact Below.refl _ _ | assumption | refine below_drewN ?_ _ | refine Below.setCell ?_ (by first | (simp; done) | (simp; omega)) _ | refine Below.alloc ?_ (by first | (simp; done) | (simp; omega) | omega) _ | refine Below.drew ?_ | refine Below.trans ?_ (Below.mono (by assumption) (by first | (simp; done) | (simp; omega) | omega))))
  have c7_0 := cell_keep bb7 c6_0
  have c7_1 := cell_keep bb7 c6_1
  have be7 := BE6.out.trans (bb7.mono BE6.out.size)
  have hch7 := HCH6.out.below bb7
  have HI7 := Lib.hid (HI6.out.below bb7)
  have lz7 : w.heap.size + 1 < w7.heap.size := by omega
  have lzz7 : w.heap.size + 1 < w7.heap.size + 1 := by omega
  have BE7 := Lib.hid be7
  have HCH7 := Lib.hid hch7
  clear be7 hch7 hb7 bb7 c6_0 c6_1 lz6 lzz6 HCH6 BE6
  go_wp2_with fail
  refine (valid_calls 60 (some ⟨w.heap.size, 0, none⟩) hcs 2 w7 HCH7.out).mono ?_
  rintro e w8 ⟨rfl, hb8⟩
  rw [hv8]
  have hz8 := hb8.size
  (try simp at hz8)
  have bb8 : Below w7.heap.size w7 w8 := (by repeat (first | exact Below.refl _ _ | assumption | refine below_drewN ?_ _ | refine Below.setCell ?_ (by first | (simp; done) | (simp; omega)) _ | refine Below.alloc ?_ (by first | (simp; done) | (simp; omega) | omega) _ | refine Below.drew ?_ | refine Below.trans ?_ (Below.mono (by assumption) (by first | (simp; done) | (simp; omega) | omega))))
  have c8_0 := cell_keep bb8 c7_0
  have c8_1 := cell_keep bb8 c7_1
  have be8 := BE7.out.trans (bb8.mono BE7.out.size)
  have hch8 := HCH7.out.below bb8
  have HI8 := Lib.hid (HI7.out.below bb8)
  have lz8 : w.heap.size + 1 < w8.heap.size := by omega
  have lzz8 : w.heap.size + 1 < w8.heap.size + 1 := by omega
  have BE8 := Lib.hid be8
  have HCH8 := Lib.hid hch8
  clear be8 hch8 hb8 bb8 c7_0 c7_1 lz7 lzz7 HCH7 BE7
  go_wp2_with fail
  refine (instants_calls 60 (some ⟨w.heap.size, 0, none⟩) hcs 2 69 730 w8 HCH8.out).mono ?_
  rintro e w9 ⟨v, rfl, hi, hb9⟩
  have hz9 := hb9.size
  (try simp at hz9)
  have bb9 : Below w8.heap.size w8 w9 := (by repeat (first | exact Below.refl _ _ | assumption | refine below_drewN ?_ _ | refine Below.setCell ?_ (by first | (simp; done) | (simp; omega)) _ | refine Below.alloc ?_ (by first | (simp; done) | (simp; omega) | omega) _ | refine Below.drew ?_ | refine Below.trans ?_ (Below.mono (by assumption) (by first | (simp; done) | (simp; omega) | omega))))
  have c9_0 := cell_keep bb9 c8_0
  have c9_1 := cell_keep bb9 c8_1
  have be9 := BE8.out.trans (bb9.mono BE8.out.size)
  have hch9 := HCH8.out.below bb9
  rw [hv9] at hi
  obtain ⟨q9, cap9, rfl, hi9⟩ := hi
  clear hi9
  simp only [List.length_nil]
  have HI9 := Lib.hid (HI8.out.below bb9)
  have lz9 : w.heap.size + 1 < w9.heap.size := by omega
  have lzz9 : w.heap.size + 1 < w9.heap.size + 1 := by omega
  have BE9 := Lib.hid be9
  have HCH9 := Lib.hid hch9
  clear be9 hch9 hb9 bb9 c8_0 c8_1 lz8 lzz8 HCH8 BE8
  go_wp2_with fail
  have hlit : IntsAt (w9.alloc (.cells #[.int .i64 199970, .int .i64 200030] 3)) (.slice (some ⟨w9.heap.size, 0, none⟩) 2 2) [199970, 200030] := ⟨_, 2, rfl, .inr ⟨_, rfl, fun j hj => by
    have hj2 : j < 2 := hj
    match j, hj2 with
    | 0, _ => go_simp
    | 1, _ => go_simp⟩⟩
  refine (ints_same _ _ [199970, 200030] _ (by decide) (HI9.out.below (by repeat (first | exact Below.refl _ _ | assumption | refine below_drewN ?_ _ | refine Below.setCell ?_ (by first | (simp; done) | (simp; omega)) _ | refine Below.alloc ?_ (by first | (simp; done) | (simp; omega) | omega) _ | refine Below.drew ?_ | refine Below.trans ?_ (Below.mono (by assumption) (by first | (simp; done) | (simp; omega) | omega))))) hlit).mono ?_
  rintro e w10 ⟨rfl, hb10⟩
  have be10 : Below w.heap.size w w10 := BE9.out.trans ((show Below w9.heap.size w9 w10 from (by repeat (first | exact Below.refl _ _ | assumption | refine below_drewN ?_ _ | refine Below.setCell ?_ (by first | (simp; done) | (simp; omega)) _ | refine Below.alloc ?_ (by first | (simp; done) | (simp; omega) | omega) _ | refine Below.drew ?_ | refine Below.trans ?_ (Below.mono (by assumption) (by first | (simp; done) | (simp; omega) | omega))))).mono BE9.out.size)
  clear hb10
  go_wp2_with fail
  go_ret
  exact ⟨rfl, be10⟩
end Go.Proofs.Ytcacmigfpahicaa

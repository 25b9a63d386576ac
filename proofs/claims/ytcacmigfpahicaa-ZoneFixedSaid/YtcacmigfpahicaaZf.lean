/- ZoneFixed: the walk of the law. -/
import Derived.Test.YtcacmigfpahicaaZnH
namespace Go.Proofs.Ytcacmigfpahicaa
open Go.RowKit Go.Shelf

set_option maxRecDepth 100000 in
set_option maxHeartbeats 1600000 in
theorem fixed_low (o r t : Int) (w : World) (h0 : 0 ≤ r) (h1 : r ≤ 4294967295) (ht : r % 105190560 = t) (ho : o < -840) :
    Calls Try.prog 6 #[.int .i64 o, .int .u32 r] w fun e w' => e = .returned (.bool true) ∧ Below w.heap.size w w' := by
  have HCH0 := Lib.hid (show Chg w none [] from .inl rfl)
  have HV : Hid (Zn.localS o [] t = (0, 0, 1)) := Zn.local_arg (fun h => by have := h.1.1; omega)
  have HV2 : Hid (decide (Zn.Ok o []) = false) := decide_eq_false (fun h => by have := h.1; omega)
  have HT := Lib.hid ht
  clear ht
  go_enter Try.func6, Try.ntmps6
  go_wp2_with fail
  refine (head_any _).mono ?_
  rintro e w1 ⟨rfl, hb1⟩
  have hz1 := hb1.size
  (try simp at hz1)
  have bb1 : Below w.heap.size w w1 := (by repeat (first | exact Below.refl _ _ | assumption | refine below_drewN ?_ _ | refine Below.setCell ?_ (by first | (simp; done) | (simp; omega)) _ | refine Below.alloc ?_ (by first | (simp; done) | (simp; omega) | omega) _ | refine Below.drew ?_ | refine Below.trans ?_ (Below.mono (by assumption) (by first | (simp; done) | (simp; omega) | omega))))
  have be1 : Below w.heap.size w w1 := bb1
  have hch1 := HCH0.out.below bb1
  have BE1 := Lib.hid be1
  have HCH1 := Lib.hid hch1
  clear be1 hch1 bb1 hb1 HCH0
  go_wp2_with fail
  simp only [HT.out]
  refine (local_calls o none [] 0 t _ (.inl rfl)).mono ?_
  rintro e w2 ⟨rfl, hb2⟩
  rw [HV.out, R3]
  have hz2 := hb2.size
  (try simp at hz2)
  have bb2 : Below w1.heap.size w1 w2 := (by repeat (first | exact Below.refl _ _ | assumption | refine below_drewN ?_ _ | refine Below.setCell ?_ (by first | (simp; done) | (simp; omega)) _ | refine Below.alloc ?_ (by first | (simp; done) | (simp; omega) | omega) _ | refine Below.drew ?_ | refine Below.trans ?_ (Below.mono (by assumption) (by first | (simp; done) | (simp; omega) | omega))))
  have be2 : Below w.heap.size w w2 := BE1.out.trans (bb2.mono BE1.out.size)
  have hch2 := HCH1.out.below bb2
  have c2_z_0 : w2.cell? ⟨w1.heap.size, 0, none⟩ = some (.int .i64 o) := cell_keep hb2 (by go_simp)
  have c2_z_1 : w2.cell? ⟨w1.heap.size, 1, none⟩ = some (.slice none 0 0) := cell_keep hb2 (by go_simp)
  have l2_z : w1.heap.size < w2.heap.size := by omega
  have m2_z : w1.heap.size < w2.heap.size + 1 := by omega
  have BE2 := Lib.hid be2
  have HCH2 := Lib.hid hch2
  clear be2 hch2 bb2 hb2 BE1 HCH1
  go_wp2_with fail
  refine (valid_calls o none [] 0 _ (.inl rfl)).mono ?_
  rintro e w3 ⟨rfl, hb3⟩
  rw [HV2.out]
  have hz3 := hb3.size
  (try simp at hz3)
  have bb3 : Below w2.heap.size w2 w3 := (by repeat (first | exact Below.refl _ _ | assumption | refine below_drewN ?_ _ | refine Below.setCell ?_ (by first | (simp; done) | (simp; omega)) _ | refine Below.alloc ?_ (by first | (simp; done) | (simp; omega) | omega) _ | refine Below.drew ?_ | refine Below.trans ?_ (Below.mono (by assumption) (by first | (simp; done) | (simp; omega) | omega))))
  have be3 : Below w.heap.size w w3 := BE2.out.trans (bb3.mono BE2.out.size)
  have hch3 := HCH2.out.below bb3
  have c3_z_0 : w3.cell? ⟨w1.heap.size, 0, none⟩ = some (.int .i64 o) := cell_keep bb3 c2_z_0
  have c3_z_1 : w3.cell? ⟨w1.heap.size, 1, none⟩ = some (.slice none 0 0) := cell_keep bb3 c2_z_1
  have l3_z : w1.heap.size < w3.heap.size := by omega
  have m3_z : w1.heap.size < w3.heap.size + 1 := by omega
  have BE3 := Lib.hid be3
  have HCH3 := Lib.hid hch3
  clear be3 hch3 bb3 hb3 BE2 HCH2 c2_z_0 c2_z_1 l2_z m2_z
  go_wp2_with fail
  go_ret
  exact ⟨rfl, by have q := BE3.out; repeat (first | exact q | refine Below.alloc ?_ (by first | omega | (simp; omega)) _ | refine below_drewN ?_ _ | refine Below.drew ?_)⟩
set_option maxRecDepth 100000 in
set_option maxHeartbeats 1600000 in
theorem fixed_high (o r t : Int) (w : World) (h0 : 0 ≤ r) (h1 : r ≤ 4294967295) (ht : r % 105190560 = t) (ho' : ¬ o < -840) (ho : 840 < o) :
    Calls Try.prog 6 #[.int .i64 o, .int .u32 r] w fun e w' => e = .returned (.bool true) ∧ Below w.heap.size w w' := by
  have HCH0 := Lib.hid (show Chg w none [] from .inl rfl)
  have HV : Hid (Zn.localS o [] t = (0, 0, 1)) := Zn.local_arg (fun h => by have := h.1.2.1; omega)
  have HV2 : Hid (decide (Zn.Ok o []) = false) := decide_eq_false (fun h => by have := h.2.1; omega)
  have HT := Lib.hid ht
  clear ht
  go_enter Try.func6, Try.ntmps6
  go_wp2_with fail
  refine (head_any _).mono ?_
  rintro e w1 ⟨rfl, hb1⟩
  have hz1 := hb1.size
  (try simp at hz1)
  have bb1 : Below w.heap.size w w1 := (by repeat (first | exact Below.refl _ _ | assumption | refine below_drewN ?_ _ | refine Below.setCell ?_ (by first | (simp; done) | (simp; omega)) _ | refine Below.alloc ?_ (by first | (simp; done) | (simp; omega) | omega) _ | refine Below.drew ?_ | refine Below.trans ?_ (Below.mono (by assumption) (by first | (simp; done) | (simp; omega) | omega))))
  have be1 : Below w.heap.size w w1 := bb1
  have hch1 := HCH0.out.below bb1
  have BE1 := Lib.hid be1
  have HCH1 := Lib.hid hch1
  clear be1 hch1 bb1 hb1 HCH0
  go_wp2_with fail
  simp only [HT.out]
  refine (local_calls o none [] 0 t _ (.inl rfl)).mono ?_
  rintro e w2 ⟨rfl, hb2⟩
  rw [HV.out, R3]
  have hz2 := hb2.size
  (try simp at hz2)
  have bb2 : Below w1.heap.size w1 w2 := (by repeat (first | exact Below.refl _ _ | assumption | refine below_drewN ?_ _ | refine Below.setCell ?_ (by first | (simp; done) | (simp; omega)) _ | refine Below.alloc ?_ (by first | (simp; done) | (simp; omega) | omega) _ | refine Below.drew ?_ | refine Below.trans ?_ (Below.mono (by assumption) (by first | (simp; done) | (simp; omega) | omega))))
  have be2 : Below w.heap.size w w2 := BE1.out.trans (bb2.mono BE1.out.size)
  have hch2 := HCH1.out.below bb2
  have c2_z_0 : w2.cell? ⟨w1.heap.size, 0, none⟩ = some (.int .i64 o) := cell_keep hb2 (by go_simp)
  have c2_z_1 : w2.cell? ⟨w1.heap.size, 1, none⟩ = some (.slice none 0 0) := cell_keep hb2 (by go_simp)
  have l2_z : w1.heap.size < w2.heap.size := by omega
  have m2_z : w1.heap.size < w2.heap.size + 1 := by omega
  have BE2 := Lib.hid be2
  have HCH2 := Lib.hid hch2
  clear be2 hch2 bb2 hb2 BE1 HCH1
  go_wp2_with fail
  refine (valid_calls o none [] 0 _ (.inl rfl)).mono ?_
  rintro e w3 ⟨rfl, hb3⟩
  rw [HV2.out]
  have hz3 := hb3.size
  (try simp at hz3)
  have bb3 : Below w2.heap.size w2 w3 := (by repeat (first | exact Below.refl _ _ | assumption | refine below_drewN ?_ _ | refine Below.setCell ?_ (by first | (simp; done) | (simp; omega)) _ | refine Below.alloc ?_ (by first | (simp; done) | (simp; omega) | omega) _ | refine Below.drew ?_ | refine Below.trans ?_ (Below.mono (by assumption) (by first | (simp; done) | (simp; omega) | omega))))
  have be3 : Below w.heap.size w w3 := BE2.out.trans (bb3.mono BE2.out.size)
  have hch3 := HCH2.out.below bb3
  have c3_z_0 : w3.cell? ⟨w1.heap.size, 0, none⟩ = some (.int .i64 o) := cell_keep bb3 c2_z_0
  have c3_z_1 : w3.cell? ⟨w1.heap.size, 1, none⟩ = some (.slice none 0 0) := cell_keep bb3 c2_z_1
  have l3_z : w1.heap.size < w3.heap.size := by omega
  have m3_z : w1.heap.size < w3.heap.size + 1 := by omega
  have BE3 := Lib.hid be3
  have HCH3 := Lib.hid hch3
  clear be3 hch3 bb3 hb3 BE2 HCH2 c2_z_0 c2_z_1 l2_z m2_z
  go_wp2_with fail
  go_ret
  exact ⟨rfl, by have q := BE3.out; repeat (first | exact q | refine Below.alloc ?_ (by first | omega | (simp; omega)) _ | refine below_drewN ?_ _ | refine Below.drew ?_)⟩
set_option maxRecDepth 100000 in
set_option maxHeartbeats 1600000 in
theorem fixed_before (o r t : Int) (w : World) (h0 : 0 ≤ r) (h1 : r ≤ 4294967295) (ht : r % 105190560 = t) (h2 : -840 ≤ o) (h3 : o ≤ 840) (hl : t + o < 0) :
    Calls Try.prog 6 #[.int .i64 o, .int .u32 r] w fun e w' => e = .returned (.bool true) ∧ Below w.heap.size w w' := by
  have HCH0 := Lib.hid (show Chg w none [] from .inl rfl)
  have hb0 : 0 ≤ t ∧ t ≤ 105190559 := by omega
  have wt : wrap64 (t + o) = t + o := by unfold wrap64; omega
  have ho1 : ¬ o < -840 := by omega
  have ho2 : ¬ 840 < o := by omega
  have HV : Hid (Zn.localS o [] t = (0, 0, 2)) := Zn.local_range ⟨(Zn.ok_nil o).2 ⟨h2, h3⟩, hb0⟩ (by show ¬ (0 ≤ t + o ∧ t + o ≤ 105190559); omega)
  have HT := Lib.hid ht
  clear ht hb0
  go_enter Try.func6, Try.ntmps6
  go_wp2_with fail
  refine (head_any _).mono ?_
  rintro e w1 ⟨rfl, hb1⟩
  have hz1 := hb1.size
  (try simp at hz1)
  have bb1 : Below w.heap.size w w1 := (by repeat (first | exact Below.refl _ _ | assumption | refine below_drewN ?_ _ | refine Below.setCell ?_ (by first | (simp; done) | (simp; omega)) _ | refine Below.alloc ?_ (by first | (simp; done) | (simp; omega) | omega) _ | refine Below.drew ?_ | refine Below.trans ?_ (Below.mono (by assumption) (by first | (simp; done) | (simp; omega) | omega))))
  have be1 : Below w.heap.size w w1 := bb1
  have hch1 := HCH0.out.below bb1
  have BE1 := Lib.hid be1
  have HCH1 := Lib.hid hch1
  clear be1 hch1 bb1 hb1 HCH0
  go_wp2_with fail
  simp only [HT.out]
  refine (local_calls o none [] 0 t _ (.inl rfl)).mono ?_
  rintro e w2 ⟨rfl, hb2⟩
  rw [HV.out, R3]
  have hz2 := hb2.size
  (try simp at hz2)
  have bb2 : Below w1.heap.size w1 w2 := (by repeat (first | exact Below.refl _ _ | assumption | refine below_drewN ?_ _ | refine Below.setCell ?_ (by first | (simp; done) | (simp; omega)) _ | refine Below.alloc ?_ (by first | (simp; done) | (simp; omega) | omega) _ | refine Below.drew ?_ | refine Below.trans ?_ (Below.mono (by assumption) (by first | (simp; done) | (simp; omega) | omega))))
  have be2 : Below w.heap.size w w2 := BE1.out.trans (bb2.mono BE1.out.size)
  have hch2 := HCH1.out.below bb2
  have c2_z_0 : w2.cell? ⟨w1.heap.size, 0, none⟩ = some (.int .i64 o) := cell_keep hb2 (by go_simp)
  have c2_z_1 : w2.cell? ⟨w1.heap.size, 1, none⟩ = some (.slice none 0 0) := cell_keep hb2 (by go_simp)
  have l2_z : w1.heap.size < w2.heap.size := by omega
  have m2_z : w1.heap.size < w2.heap.size + 1 := by omega
  have BE2 := Lib.hid be2
  have HCH2 := Lib.hid hch2
  clear be2 hch2 bb2 hb2 BE1 HCH1
  go_wp2_with fail
  go_ret
  exact ⟨rfl, by have q := BE2.out; repeat (first | exact q | refine Below.alloc ?_ (by first | omega | (simp; omega)) _ | refine below_drewN ?_ _ | refine Below.drew ?_)⟩
set_option maxRecDepth 100000 in
set_option maxHeartbeats 1600000 in
theorem fixed_behind (o r t : Int) (w : World) (h0 : 0 ≤ r) (h1 : r ≤ 4294967295) (ht : r % 105190560 = t) (h2 : -840 ≤ o) (h3 : o ≤ 840) (hl0 : ¬ t + o < 0) (hl : 105190559 < t + o) :
    Calls Try.prog 6 #[.int .i64 o, .int .u32 r] w fun e w' => e = .returned (.bool true) ∧ Below w.heap.size w w' := by
  have HCH0 := Lib.hid (show Chg w none [] from .inl rfl)
  have hb0 : 0 ≤ t ∧ t ≤ 105190559 := by omega
  have wt : wrap64 (t + o) = t + o := by unfold wrap64; omega
  have ho1 : ¬ o < -840 := by omega
  have ho2 : ¬ 840 < o := by omega
  have HV : Hid (Zn.localS o [] t = (0, 0, 2)) := Zn.local_range ⟨(Zn.ok_nil o).2 ⟨h2, h3⟩, hb0⟩ (by show ¬ (0 ≤ t + o ∧ t + o ≤ 105190559); omega)
  have HT := Lib.hid ht
  clear ht hb0
  go_enter Try.func6, Try.ntmps6
  go_wp2_with fail
  refine (head_any _).mono ?_
  rintro e w1 ⟨rfl, hb1⟩
  have hz1 := hb1.size
  (try simp at hz1)
  have bb1 : Below w.heap.size w w1 := (by repeat (first | exact Below.refl _ _ | assumption | refine below_drewN ?_ _ | refine Below.setCell ?_ (by first | (simp; done) | (simp; omega)) _ | refine Below.alloc ?_ (by first | (simp; done) | (simp; omega) | omega) _ | refine Below.drew ?_ | refine Below.trans ?_ (Below.mono (by assumption) (by first | (simp; done) | (simp; omega) | omega))))
  have be1 : Below w.heap.size w w1 := bb1
  have hch1 := HCH0.out.below bb1
  have BE1 := Lib.hid be1
  have HCH1 := Lib.hid hch1
  clear be1 hch1 bb1 hb1 HCH0
  go_wp2_with fail
  simp only [HT.out]
  refine (local_calls o none [] 0 t _ (.inl rfl)).mono ?_
  rintro e w2 ⟨rfl, hb2⟩
  rw [HV.out, R3]
  have hz2 := hb2.size
  (try simp at hz2)
  have bb2 : Below w1.heap.size w1 w2 := (by repeat (first | exact Below.refl _ _ | assumption | refine below_drewN ?_ _ | refine Below.setCell ?_ (by first | (simp; done) | (simp; omega)) _ | refine Below.alloc ?_ (by first | (simp; done) | (simp; omega) | omega) _ | refine Below.drew ?_ | refine Below.trans ?_ (Below.mono (by assumption) (by first | (simp; done) | (simp; omega) | omega))))
  have be2 : Below w.heap.size w w2 := BE1.out.trans (bb2.mono BE1.out.size)
  have hch2 := HCH1.out.below bb2
  have c2_z_0 : w2.cell? ⟨w1.heap.size, 0, none⟩ = some (.int .i64 o) := cell_keep hb2 (by go_simp)
  have c2_z_1 : w2.cell? ⟨w1.heap.size, 1, none⟩ = some (.slice none 0 0) := cell_keep hb2 (by go_simp)
  have l2_z : w1.heap.size < w2.heap.size := by omega
  have m2_z : w1.heap.size < w2.heap.size + 1 := by omega
  have BE2 := Lib.hid be2
  have HCH2 := Lib.hid hch2
  clear be2 hch2 bb2 hb2 BE1 HCH1
  go_wp2_with fail
  go_ret
  exact ⟨rfl, by have q := BE2.out; repeat (first | exact q | refine Below.alloc ?_ (by first | omega | (simp; omega)) _ | refine below_drewN ?_ _ | refine Below.drew ?_)⟩
set_option maxRecDepth 100000 in
set_option maxHeartbeats 1600000 in
theorem fixed_in (o r t a b : Int) (w : World) (h0 : 0 ≤ r) (h1 : r ≤ 4294967295) (ht : r % 105190560 = t) (h2 : -840 ≤ o) (h3 : o ≤ 840) (hl0 : ¬ t + o < 0) (hl : ¬ 105190559 < t + o) (hv : Zn.localS o [] t = (a, b, 0)) :
    Calls Try.prog 6 #[.int .i64 o, .int .u32 r] w fun e w' => e = .returned (.bool true) ∧ Below w.heap.size w w' := by
  have HCH0 := Lib.hid (show Chg w none [] from .inl rfl)
  have hb0 : 0 ≤ t ∧ t ≤ 105190559 := by omega
  have wt : wrap64 (t + o) = t + o := by unfold wrap64; omega
  have ho1 : ¬ o < -840 := by omega
  have ho2 : ¬ 840 < o := by omega
  have HV : Hid (Zn.localS o [] t = (a, b, 0)) := hv
  have HF : Hid (Zn.instS o [] a b = [t]) := (Zn.fixed hv).2
  obtain ⟨_, _, _, _, q5, q6, q7, q8⟩ := Zn.local_back hv
  have q9 := (Zn.fixed hv).1
  have w1 : wrap64 (a * 1440) = a * 1440 := by unfold wrap64; omega
  have w2 : wrap64 (a * 1440 + b) = t + o := by rw [← q9]; unfold wrap64; omega
  have q6' : b < 1440 := by omega
  have HT := Lib.hid ht
  have Q9 := Lib.hid q9
  clear ht hb0 q9 hv
  go_enter Try.func6, Try.ntmps6
  go_wp2_with fail
  refine (head_any _).mono ?_
  rintro e w1 ⟨rfl, hb1⟩
  have hz1 := hb1.size
  (try simp at hz1)
  have bb1 : Below w.heap.size w w1 := (by repeat (first | exact Below.refl _ _ | assumption | refine below_drewN ?_ _ | refine Below.setCell ?_ (by first | (simp; done) | (simp; omega)) _ | refine Below.alloc ?_ (by first | (simp; done) | (simp; omega) | omega) _ | refine Below.drew ?_ | refine Below.trans ?_ (Below.mono (by assumption) (by first | (simp; done) | (simp; omega) | omega))))
  have be1 : Below w.heap.size w w1 := bb1
  have hch1 := HCH0.out.below bb1
  have BE1 := Lib.hid be1
  have HCH1 := Lib.hid hch1
  clear be1 hch1 bb1 hb1 HCH0
  go_wp2_with fail
  simp only [HT.out]
  refine (local_calls o none [] 0 t _ (.inl rfl)).mono ?_
  rintro e w2 ⟨rfl, hb2⟩
  rw [HV.out, R3]
  have hz2 := hb2.size
  (try simp at hz2)
  have bb2 : Below w1.heap.size w1 w2 := (by repeat (first | exact Below.refl _ _ | assumption | refine below_drewN ?_ _ | refine Below.setCell ?_ (by first | (simp; done) | (simp; omega)) _ | refine Below.alloc ?_ (by first | (simp; done) | (simp; omega) | omega) _ | refine Below.drew ?_ | refine Below.trans ?_ (Below.mono (by assumption) (by first | (simp; done) | (simp; omega) | omega))))
  have be2 : Below w.heap.size w w2 := BE1.out.trans (bb2.mono BE1.out.size)
  have hch2 := HCH1.out.below bb2
  have c2_z_0 : w2.cell? ⟨w1.heap.size, 0, none⟩ = some (.int .i64 o) := cell_keep hb2 (by go_simp)
  have c2_z_1 : w2.cell? ⟨w1.heap.size, 1, none⟩ = some (.slice none 0 0) := cell_keep hb2 (by go_simp)
  have l2_z : w1.heap.size < w2.heap.size := by omega
  have m2_z : w1.heap.size < w2.heap.size + 1 := by omega
  have BE2 := Lib.hid be2
  have HCH2 := Lib.hid hch2
  clear be2 hch2 bb2 hb2 BE1 HCH1
  go_wp2_with fail
  refine (instants_calls o none [] 0 a b _ (.inl rfl)).mono ?_
  rintro e w3 ⟨v, rfl, hi, hb3⟩
  have hz3 := hb3.size
  (try simp at hz3)
  have bb3 : Below w2.heap.size w2 w3 := (by repeat (first | exact Below.refl _ _ | assumption | refine below_drewN ?_ _ | refine Below.setCell ?_ (by first | (simp; done) | (simp; omega)) _ | refine Below.alloc ?_ (by first | (simp; done) | (simp; omega) | omega) _ | refine Below.drew ?_ | refine Below.trans ?_ (Below.mono (by assumption) (by first | (simp; done) | (simp; omega) | omega))))
  have be3 : Below w.heap.size w w3 := BE2.out.trans (bb3.mono BE2.out.size)
  have hch3 := HCH2.out.below bb3
  have c3_z_0 : w3.cell? ⟨w1.heap.size, 0, none⟩ = some (.int .i64 o) := cell_keep bb3 c2_z_0
  have c3_z_1 : w3.cell? ⟨w1.heap.size, 1, none⟩ = some (.slice none 0 0) := cell_keep bb3 c2_z_1
  have l3_z : w1.heap.size < w3.heap.size := by omega
  have m3_z : w1.heap.size < w3.heap.size + 1 := by omega
  rw [HF.out] at hi
  have HI3 := Lib.hid hi
  clear hi
  have BE3 := Lib.hid be3
  have HCH3 := Lib.hid hch3
  clear be3 hch3 bb3 hb3 BE2 HCH2 c2_z_0 c2_z_1 l2_z m2_z
  go_wp2_with fail
  have hlit : IntsAt (w3.alloc (.cells #[.int .i64 t] 3)) (.slice (some ⟨w3.heap.size, 0, none⟩) 1 1) [t] := ⟨_, 1, rfl, .inr ⟨_, rfl, fun j hj => by
    have hj2 : j < 1 := hj
    match j, hj2 with
    | 0, _ => go_simp⟩⟩
  go_wp2_with fail
  refine (ints_same _ _ [t] _ (by simp) (HI3.out.below (by repeat (first | exact Below.refl _ _ | assumption | refine below_drewN ?_ _ | refine Below.setCell ?_ (by first | (simp; done) | (simp; omega)) _ | refine Below.alloc ?_ (by first | (simp; done) | (simp; omega) | omega) _ | refine Below.drew ?_ | refine Below.trans ?_ (Below.mono (by assumption) (by first | (simp; done) | (simp; omega) | omega))))) hlit).mono ?_
  rintro e w4 ⟨rfl, hb4⟩
  have hz4 := hb4.size
  (try simp at hz4)
  have bb4 : Below w3.heap.size w3 w4 := (by repeat (first | exact Below.refl _ _ | assumption | refine below_drewN ?_ _ | refine Below.setCell ?_ (by first | (simp; done) | (simp; omega)) _ | refine Below.alloc ?_ (by first | (simp; done) | (simp; omega) | omega) _ | refine Below.drew ?_ | refine Below.trans ?_ (Below.mono (by assumption) (by first | (simp; done) | (simp; omega) | omega))))
  have be4 : Below w.heap.size w w4 := BE3.out.trans (bb4.mono BE3.out.size)
  have hch4 := HCH3.out.below bb4
  have c4_z_0 : w4.cell? ⟨w1.heap.size, 0, none⟩ = some (.int .i64 o) := cell_keep bb4 c3_z_0
  have c4_z_1 : w4.cell? ⟨w1.heap.size, 1, none⟩ = some (.slice none 0 0) := cell_keep bb4 c3_z_1
  have l4_z : w1.heap.size < w4.heap.size := by omega
  have m4_z : w1.heap.size < w4.heap.size + 1 := by omega
  have BE4 := Lib.hid be4
  have HCH4 := Lib.hid hch4
  clear be4 hch4 bb4 hb4 BE3 HCH3 c3_z_0 c3_z_1 l3_z m3_z
  go_wp2_with fail
  go_ret
  exact ⟨rfl, by have q := BE4.out; repeat (first | exact q | refine Below.alloc ?_ (by first | omega | (simp; omega)) _ | refine below_drewN ?_ _ | refine Below.drew ?_)⟩
theorem fixed_law (o r : Int) (w : World) (_ : -9223372036854775808 ≤ o) (_ : o ≤ 9223372036854775807) (h0 : 0 ≤ r) (h1 : r ≤ 4294967295) :
    Calls Try.prog 6 #[.int .i64 o, .int .u32 r] w fun e w' => e = .returned (.bool true) ∧ Below w.heap.size w w' := by
  by_cases a : o < -840
  · exact fixed_low o r _ w h0 h1 rfl a
  · by_cases b : 840 < o
    · exact fixed_high o r _ w h0 h1 rfl a b
    · by_cases c : r % 105190560 + o < 0
      · exact fixed_before o r _ w h0 h1 rfl (by omega) (by omega) c
      · by_cases d : 105190559 < r % 105190560 + o
        · exact fixed_behind o r _ w h0 h1 rfl (by omega) (by omega) c d
        · exact fixed_in o r _ _ _ w h0 h1 rfl (by omega) (by omega) c d
            (Zn.local_ok ⟨(Zn.ok_nil o).2 ⟨by omega, by omega⟩, by omega, by omega⟩ (by show 0 ≤ r % 105190560 + o ∧ r % 105190560 + o ≤ 105190559; omega))
end Go.Proofs.Ytcacmigfpahicaa

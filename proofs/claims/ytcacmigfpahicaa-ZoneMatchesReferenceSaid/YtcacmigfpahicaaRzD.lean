/- The reference's Instant, Span. -/
import Derived.Test.YtcacmigfpahicaaRzC
import Derived.Test.YtcacmigfpahicaaZnG
namespace Go.Proofs.Ytcacmigfpahicaa
open Go.RowKit Go.Shelf

theorem meas_lt2 {n k : Nat} (h : k < n) : n + 1 - ((k : Int) + 1 + 1).toNat < n + 1 - ((k : Int) + 1).toNat := by omega
theorem rinstant_bad (o : Int) (p : Option Addr) (cs : List (Int × Int)) (cap : Nat) (d m : Int) (later : Bool) (w : World) (hch : Chg w p cs) (h : ¬ Zn.good o cs d m) :
    Calls Try.prog 14 #[.agg #[.int .i64 o, .slice p cs.length cap], .int .i64 d, .int .i64 m, .bool later] w fun e w' => e = .returned (R2 (Zn.instantS o cs d m later)) ∧ Below w.heap.size w w' := by
  have e : Zn.instantS o cs d m later = (0, 1) := by unfold Zn.instantS; rw [if_neg h]
  rw [e]
  have HC := Lib.hid hch
  have H := Lib.hid (decide_eq_false h)
  clear hch h e
  go_enter Try.func14, Try.ntmps14
  go_wp2_with fail
  refine (rgood_calls o p cs cap d m _ (HC.out.below (by repeat (first | exact Below.refl _ _ | assumption | refine below_drewN ?_ _ | refine Below.setCell ?_ (by first | (simp; done) | (simp; omega)) _ | refine Below.alloc ?_ (by first | (simp; done) | (simp; omega) | omega) _ | refine Below.drew ?_ | refine Below.trans ?_ (Below.mono (by assumption) (by first | (simp; done) | (simp; omega) | omega)))))).mono ?_
  rintro e w1 ⟨rfl, hb1⟩
  rw [H.out]
  go_wp2_with fail
  go_ret2
  exact ⟨rfl, (by repeat (first | exact Below.refl _ _ | assumption | refine below_drewN ?_ _ | refine Below.setCell ?_ (by first | (simp; done) | (simp; omega)) _ | refine Below.alloc ?_ (by first | (simp; done) | (simp; omega) | omega) _ | refine Below.drew ?_ | refine Below.trans ?_ (Below.mono (by assumption) (by first | (simp; done) | (simp; omega) | omega))))⟩
set_option maxRecDepth 100000 in
set_option maxHeartbeats 2000000 in
theorem rinstant_one_f (o : Int) (p : Option Addr) (cs : List (Int × Int)) (cap : Nat) (d m : Int) (w : World) (hch : Chg w p cs) (h : Zn.good o cs d m) (x : Int) (hx : Zn.instS o cs d m = [x]) :
    Calls Try.prog 14 #[.agg #[.int .i64 o, .slice p cs.length cap], .int .i64 d, .int .i64 m, .bool false] w fun e w' => e = .returned (R2 (x, 0)) ∧ Below w.heap.size w w' := by
  have WA := Lib.hid (show wrap64 (d * 1440) = d * 1440 from wrap_in (by have := h.2; omega) (by have := h.2; omega))
  have WB := Lib.hid (show wrap64 (d * 1440 + m) = d * 1440 + m from wrap_in (by have := h.2; omega) (by have := h.2; omega))
  have HC := Lib.hid hch
  have HG := Lib.hid h
  have H := Lib.hid (decide_eq_true h)
  have HX := Lib.hid hx
  clear hch h hx
  go_enter Try.func14, Try.ntmps14
  go_wp2_with fail
  refine (rgood_calls o p cs cap d m _ (HC.out.below (by repeat (first | exact Below.refl _ _ | assumption | refine below_drewN ?_ _ | refine Below.setCell ?_ (by first | (simp; done) | (simp; omega)) _ | refine Below.alloc ?_ (by first | (simp; done) | (simp; omega) | omega) _ | refine Below.drew ?_ | refine Below.trans ?_ (Below.mono (by assumption) (by first | (simp; done) | (simp; omega) | omega)))))).mono ?_
  rintro e w1 ⟨rfl, hb1⟩
  rw [H.out]
  have hz1 := hb1.size
  (try simp at hz1)
  have c1 : w1.cell? ⟨w.heap.size, 0, none⟩ = some (.int .i64 o) := cell_keep hb1 (by go_simp)
  have c2 : w1.cell? ⟨w.heap.size, 1, none⟩ = some (.slice p cs.length cap) := cell_keep hb1 (by go_simp)
  have be1 : Below w.heap.size w w1 := (by repeat (first | exact Below.refl _ _ | assumption | refine below_drewN ?_ _ | refine Below.setCell ?_ (by first | (simp; done) | (simp; omega)) _ | refine Below.alloc ?_ (by first | (simp; done) | (simp; omega) | omega) _ | refine Below.drew ?_ | refine Below.trans ?_ (Below.mono (by assumption) (by first | (simp; done) | (simp; omega) | omega))))
  have BE1 := Lib.hid be1
  clear hb1 be1
  go_wp2_with fail
  refine (rinstants_calls o p cs cap d m w1 (HC.out.below BE1.out)).mono ?_
  rintro e w3 ⟨v, rfl, hv, hb3⟩
  rw [HX.out] at hv
  obtain ⟨q, cap2, rfl, hcells⟩ := hv
  have hz3 := hb3.size
  have d1 : w3.cell? ⟨w.heap.size, 0, none⟩ = some (.int .i64 o) := cell_keep hb3 c1
  have d2 : w3.cell? ⟨w.heap.size, 1, none⟩ = some (.slice p cs.length cap) := cell_keep hb3 c2
  have l1 : w.heap.size < w3.heap.size := by omega
  have BE3 := Lib.hid (BE1.out.trans (hb3.mono BE1.out.size))
  clear hb3 c1 c2
  obtain ⟨b, rfl, hc⟩ := hcells.resolve_left (by simp)
  have x0 : w3.cell? ⟨b, 0, none⟩ = some (.int .i64 x) := hc 0 (by simp)
  have hbl := Same.lt_of_cell x0
  dsimp only at hbl
  clear WA WB HG
  simp only [List.length_cons, List.length_nil, Nat.zero_add]
  clear hc
  go_wp2_with fail
  go_ret2
  exact ⟨rfl, BE3.out⟩
set_option maxRecDepth 100000 in
set_option maxHeartbeats 2000000 in
theorem rinstant_one_t (o : Int) (p : Option Addr) (cs : List (Int × Int)) (cap : Nat) (d m : Int) (w : World) (hch : Chg w p cs) (h : Zn.good o cs d m) (x : Int) (hx : Zn.instS o cs d m = [x]) :
    Calls Try.prog 14 #[.agg #[.int .i64 o, .slice p cs.length cap], .int .i64 d, .int .i64 m, .bool true] w fun e w' => e = .returned (R2 (x, 0)) ∧ Below w.heap.size w w' := by
  have WA := Lib.hid (show wrap64 (d * 1440) = d * 1440 from wrap_in (by have := h.2; omega) (by have := h.2; omega))
  have WB := Lib.hid (show wrap64 (d * 1440 + m) = d * 1440 + m from wrap_in (by have := h.2; omega) (by have := h.2; omega))
  have HC := Lib.hid hch
  have HG := Lib.hid h
  have H := Lib.hid (decide_eq_true h)
  have HX := Lib.hid hx
  clear hch h hx
  go_enter Try.func14, Try.ntmps14
  go_wp2_with fail
  refine (rgood_calls o p cs cap d m _ (HC.out.below (by repeat (first | exact Below.refl _ _ | assumption | refine below_drewN ?_ _ | refine Below.setCell ?_ (by first | (simp; done) | (simp; omega)) _ | refine Below.alloc ?_ (by first | (simp; done) | (simp; omega) | omega) _ | refine Below.drew ?_ | refine Below.trans ?_ (Below.mono (by assumption) (by first | (simp; done) | (simp; omega) | omega)))))).mono ?_
  rintro e w1 ⟨rfl, hb1⟩
  rw [H.out]
  have hz1 := hb1.size
  (try simp at hz1)
  have c1 : w1.cell? ⟨w.heap.size, 0, none⟩ = some (.int .i64 o) := cell_keep hb1 (by go_simp)
  have c2 : w1.cell? ⟨w.heap.size, 1, none⟩ = some (.slice p cs.length cap) := cell_keep hb1 (by go_simp)
  have be1 : Below w.heap.size w w1 := (by repeat (first | exact Below.refl _ _ | assumption | refine below_drewN ?_ _ | refine Below.setCell ?_ (by first | (simp; done) | (simp; omega)) _ | refine Below.alloc ?_ (by first | (simp; done) | (simp; omega) | omega) _ | refine Below.drew ?_ | refine Below.trans ?_ (Below.mono (by assumption) (by first | (simp; done) | (simp; omega) | omega))))
  have BE1 := Lib.hid be1
  clear hb1 be1
  go_wp2_with fail
  refine (rinstants_calls o p cs cap d m w1 (HC.out.below BE1.out)).mono ?_
  rintro e w3 ⟨v, rfl, hv, hb3⟩
  rw [HX.out] at hv
  obtain ⟨q, cap2, rfl, hcells⟩ := hv
  have hz3 := hb3.size
  have d1 : w3.cell? ⟨w.heap.size, 0, none⟩ = some (.int .i64 o) := cell_keep hb3 c1
  have d2 : w3.cell? ⟨w.heap.size, 1, none⟩ = some (.slice p cs.length cap) := cell_keep hb3 c2
  have l1 : w.heap.size < w3.heap.size := by omega
  have BE3 := Lib.hid (BE1.out.trans (hb3.mono BE1.out.size))
  clear hb3 c1 c2
  obtain ⟨b, rfl, hc⟩ := hcells.resolve_left (by simp)
  have x0 : w3.cell? ⟨b, 0, none⟩ = some (.int .i64 x) := hc 0 (by simp)
  have hbl := Same.lt_of_cell x0
  dsimp only at hbl
  clear WA WB HG
  simp only [List.length_cons, List.length_nil, Nat.zero_add]
  clear hc
  go_wp2_with fail
  go_ret2
  exact ⟨rfl, BE3.out⟩
set_option maxRecDepth 100000 in
set_option maxHeartbeats 2000000 in
theorem rinstant_two_f (o : Int) (p : Option Addr) (cs : List (Int × Int)) (cap : Nat) (d m : Int) (w : World) (hch : Chg w p cs) (h : Zn.good o cs d m) (x y : Int) (hx : Zn.instS o cs d m = [x, y]) :
    Calls Try.prog 14 #[.agg #[.int .i64 o, .slice p cs.length cap], .int .i64 d, .int .i64 m, .bool false] w fun e w' => e = .returned (R2 (x, 0)) ∧ Below w.heap.size w w' := by
  have WA := Lib.hid (show wrap64 (d * 1440) = d * 1440 from wrap_in (by have := h.2; omega) (by have := h.2; omega))
  have WB := Lib.hid (show wrap64 (d * 1440 + m) = d * 1440 + m from wrap_in (by have := h.2; omega) (by have := h.2; omega))
  have HC := Lib.hid hch
  have HG := Lib.hid h
  have H := Lib.hid (decide_eq_true h)
  have HX := Lib.hid hx
  clear hch h hx
  go_enter Try.func14, Try.ntmps14
  go_wp2_with fail
  refine (rgood_calls o p cs cap d m _ (HC.out.below (by repeat (first | exact Below.refl _ _ | assumption | refine below_drewN ?_ _ | refine Below.setCell ?_ (by first | (simp; done) | (simp; omega)) _ | refine Below.alloc ?_ (by first | (simp; done) | (simp; omega) | omega) _ | refine Below.drew ?_ | refine Below.trans ?_ (Below.mono (by assumption) (by first | (simp; done) | (simp; omega) | omega)))))).mono ?_
  rintro e w1 ⟨rfl, hb1⟩
  rw [H.out]
  have hz1 := hb1.size
  (try simp at hz1)
  have c1 : w1.cell? ⟨w.heap.size, 0, none⟩ = some (.int .i64 o) := cell_keep hb1 (by go_simp)
  have c2 : w1.cell? ⟨w.heap.size, 1, none⟩ = some (.slice p cs.length cap) := cell_keep hb1 (by go_simp)
  have be1 : Below w.heap.size w w1 := (by repeat (first | exact Below.refl _ _ | assumption | refine below_drewN ?_ _ | refine Below.setCell ?_ (by first | (simp; done) | (simp; omega)) _ | refine Below.alloc ?_ (by first | (simp; done) | (simp; omega) | omega) _ | refine Below.drew ?_ | refine Below.trans ?_ (Below.mono (by assumption) (by first | (simp; done) | (simp; omega) | omega))))
  have BE1 := Lib.hid be1
  clear hb1 be1
  go_wp2_with fail
  refine (rinstants_calls o p cs cap d m w1 (HC.out.below BE1.out)).mono ?_
  rintro e w3 ⟨v, rfl, hv, hb3⟩
  rw [HX.out] at hv
  obtain ⟨q, cap2, rfl, hcells⟩ := hv
  have hz3 := hb3.size
  have d1 : w3.cell? ⟨w.heap.size, 0, none⟩ = some (.int .i64 o) := cell_keep hb3 c1
  have d2 : w3.cell? ⟨w.heap.size, 1, none⟩ = some (.slice p cs.length cap) := cell_keep hb3 c2
  have l1 : w.heap.size < w3.heap.size := by omega
  have BE3 := Lib.hid (BE1.out.trans (hb3.mono BE1.out.size))
  clear hb3 c1 c2
  obtain ⟨b, rfl, hc⟩ := hcells.resolve_left (by simp)
  have x0 : w3.cell? ⟨b, 0, none⟩ = some (.int .i64 x) := hc 0 (by simp)
  have hbl := Same.lt_of_cell x0
  dsimp only at hbl
  clear WA WB HG
  simp only [List.length_cons, List.length_nil, Nat.zero_add, Nat.reduceAdd]
  have x1 : w3.cell? ⟨b, 1, none⟩ = some (.int .i64 y) := hc 1 (by simp)
  clear hc
  go_wp2_with fail
  go_ret2
  exact ⟨rfl, BE3.out⟩
set_option maxRecDepth 100000 in
set_option maxHeartbeats 2000000 in
theorem rinstant_two_t (o : Int) (p : Option Addr) (cs : List (Int × Int)) (cap : Nat) (d m : Int) (w : World) (hch : Chg w p cs) (h : Zn.good o cs d m) (x y : Int) (hx : Zn.instS o cs d m = [x, y]) :
    Calls Try.prog 14 #[.agg #[.int .i64 o, .slice p cs.length cap], .int .i64 d, .int .i64 m, .bool true] w fun e w' => e = .returned (R2 (y, 0)) ∧ Below w.heap.size w w' := by
  have WA := Lib.hid (show wrap64 (d * 1440) = d * 1440 from wrap_in (by have := h.2; omega) (by have := h.2; omega))
  have WB := Lib.hid (show wrap64 (d * 1440 + m) = d * 1440 + m from wrap_in (by have := h.2; omega) (by have := h.2; omega))
  have HC := Lib.hid hch
  have HG := Lib.hid h
  have H := Lib.hid (decide_eq_true h)
  have HX := Lib.hid hx
  clear hch h hx
  go_enter Try.func14, Try.ntmps14
  go_wp2_with fail
  refine (rgood_calls o p cs cap d m _ (HC.out.below (by repeat (first | exact Below.refl _ _ | assumption | refine below_drewN ?_ _ | refine Below.setCell ?_ (by first | (simp; done) | (simp; omega)) _ | refine Below.alloc ?_ (by first | (simp; done) | (simp; omega) | omega) _ | refine Below.drew ?_ | refine Below.trans ?_ (Below.mono (by assumption) (by first | (simp; done) | (simp; omega) | omega)))))).mono ?_
  rintro e w1 ⟨rfl, hb1⟩
  rw [H.out]
  have hz1 := hb1.size
  (try simp at hz1)
  have c1 : w1.cell? ⟨w.heap.size, 0, none⟩ = some (.int .i64 o) := cell_keep hb1 (by go_simp)
  have c2 : w1.cell? ⟨w.heap.size, 1, none⟩ = some (.slice p cs.length cap) := cell_keep hb1 (by go_simp)
  have be1 : Below w.heap.size w w1 := (by repeat (first | exact Below.refl _ _ | assumption | refine below_drewN ?_ _ | refine Below.setCell ?_ (by first | (simp; done) | (simp; omega)) _ | refine Below.alloc ?_ (by first | (simp; done) | (simp; omega) | omega) _ | refine Below.drew ?_ | refine Below.trans ?_ (Below.mono (by assumption) (by first | (simp; done) | (simp; omega) | omega))))
  have BE1 := Lib.hid be1
  clear hb1 be1
  go_wp2_with fail
  refine (rinstants_calls o p cs cap d m w1 (HC.out.below BE1.out)).mono ?_
  rintro e w3 ⟨v, rfl, hv, hb3⟩
  rw [HX.out] at hv
  obtain ⟨q, cap2, rfl, hcells⟩ := hv
  have hz3 := hb3.size
  have d1 : w3.cell? ⟨w.heap.size, 0, none⟩ = some (.int .i64 o) := cell_keep hb3 c1
  have d2 : w3.cell? ⟨w.heap.size, 1, none⟩ = some (.slice p cs.length cap) := cell_keep hb3 c2
  have l1 : w.heap.size < w3.heap.size := by omega
  have BE3 := Lib.hid (BE1.out.trans (hb3.mono BE1.out.size))
  clear hb3 c1 c2
  obtain ⟨b, rfl, hc⟩ := hcells.resolve_left (by simp)
  have x0 : w3.cell? ⟨b, 0, none⟩ = some (.int .i64 x) := hc 0 (by simp)
  have hbl := Same.lt_of_cell x0
  dsimp only at hbl
  clear WA WB HG
  simp only [List.length_cons, List.length_nil, Nat.zero_add, Nat.reduceAdd]
  have x1 : w3.cell? ⟨b, 1, none⟩ = some (.int .i64 y) := hc 1 (by simp)
  clear hc
  go_wp2_with fail
  go_ret2
  exact ⟨rfl, BE3.out⟩
set_option maxRecDepth 100000 in
set_option maxHeartbeats 2000000 in
theorem rinstant_none (o : Int) (p : Option Addr) (cs : List (Int × Int)) (cap : Nat) (d m : Int) (later : Bool) (w : World) (hch : Chg w p cs) (h : Zn.good o cs d m) (res : Int × Int) (hres : res = Zn.skS o cs (d * 1440 + m)) (hx : Zn.instS o cs d m = []) :
    Calls Try.prog 14 #[.agg #[.int .i64 o, .slice p cs.length cap], .int .i64 d, .int .i64 m, .bool later] w fun e w' => e = .returned (R2 res) ∧ Below w.heap.size w w' := by
  have WA := Lib.hid (show wrap64 (d * 1440) = d * 1440 from wrap_in (by have := h.2; omega) (by have := h.2; omega))
  have WB := Lib.hid (show wrap64 (d * 1440 + m) = d * 1440 + m from wrap_in (by have := h.2; omega) (by have := h.2; omega))
  have HC := Lib.hid hch
  have HG := Lib.hid h
  have H := Lib.hid (decide_eq_true h)
  have HX := Lib.hid hx
  clear hch h hx
  go_enter Try.func14, Try.ntmps14
  go_wp2_with fail
  refine (rgood_calls o p cs cap d m _ (HC.out.below (by repeat (first | exact Below.refl _ _ | assumption | refine below_drewN ?_ _ | refine Below.setCell ?_ (by first | (simp; done) | (simp; omega)) _ | refine Below.alloc ?_ (by first | (simp; done) | (simp; omega) | omega) _ | refine Below.drew ?_ | refine Below.trans ?_ (Below.mono (by assumption) (by first | (simp; done) | (simp; omega) | omega)))))).mono ?_
  rintro e w1 ⟨rfl, hb1⟩
  rw [H.out]
  have hz1 := hb1.size
  (try simp at hz1)
  have c1 : w1.cell? ⟨w.heap.size, 0, none⟩ = some (.int .i64 o) := cell_keep hb1 (by go_simp)
  have c2 : w1.cell? ⟨w.heap.size, 1, none⟩ = some (.slice p cs.length cap) := cell_keep hb1 (by go_simp)
  have be1 : Below w.heap.size w w1 := (by repeat (first | exact Below.refl _ _ | assumption | refine below_drewN ?_ _ | refine Below.setCell ?_ (by first | (simp; done) | (simp; omega)) _ | refine Below.alloc ?_ (by first | (simp; done) | (simp; omega) | omega) _ | refine Below.drew ?_ | refine Below.trans ?_ (Below.mono (by assumption) (by first | (simp; done) | (simp; omega) | omega))))
  have BE1 := Lib.hid be1
  clear hb1 be1
  go_wp2_with fail
  refine (rinstants_calls o p cs cap d m w1 (HC.out.below BE1.out)).mono ?_
  rintro e w3 ⟨v, rfl, hv, hb3⟩
  rw [HX.out] at hv
  obtain ⟨q, cap2, rfl, hcells⟩ := hv
  have hz3 := hb3.size
  have d1 : w3.cell? ⟨w.heap.size, 0, none⟩ = some (.int .i64 o) := cell_keep hb3 c1
  have d2 : w3.cell? ⟨w.heap.size, 1, none⟩ = some (.slice p cs.length cap) := cell_keep hb3 c2
  have l1 : w.heap.size < w3.heap.size := by omega
  have BE3 := Lib.hid (BE1.out.trans (hb3.mono BE1.out.size))
  clear hb3 c1 c2
  simp only [List.length_nil]
  clear hcells
  obtain ⟨yy, hyy⟩ : ∃ yy, yy = d * 1440 := ⟨_, rfl⟩
  obtain ⟨L, hL⟩ : ∃ L, L = d * 1440 + m := ⟨_, rfl⟩
  rw [← hL] at hres
  have u1 : wrap64 (d * 1440) = yy := by rw [WA.out, hyy]
  have u2 : wrap64 (yy + m) = L := by rw [hyy, WB.out, hL]
  have HOK := Lib.hid HG.out.1
  have hlen : cs.length ≤ 40 := HOK.out.2.2.1
  have HN := Lib.hid (show cs.length ≤ 100 by omega)
  have HC3 := Lib.hid (HC.out.below BE3.out)
  have HRES := Lib.hid hres
  have hLb : 0 ≤ L ∧ L ≤ 200000000 := by have := HG.out.2; omega
  clear hres hyy hL WA WB
  go_wp2_with fail
  (try simp only [u1])
  (try simp only [u2])
  clear u1 u2
  go_loopw [12] (fun i wr => ∃ (j : Nat), i = .int .i64 ((j : Int) + 1) ∧ j ≤ cs.length ∧ Zn.skip o cs L = Zn.skip (Zn.offs o cs j) (cs.drop j) L ∧ Below w3.heap.size w3 wr) (fun i _ => cs.length + 1 - (intOf i).toNat)
  case atStart => exact ⟨0, rfl, Nat.zero_le _, rfl, Below.refl _ _⟩
  case round =>
    obtain ⟨j, rfl, hj, hsk, hbr⟩ := hrel
    have hsz := hbr.size
    have g0 := cell_keep hbr d1
    have g1 := cell_keep hbr d2
    have lr : w.heap.size < wr.heap.size := by omega
    have HBR := Lib.hid hbr
    have D1 := Lib.hid d1
    have D2 := Lib.hid d2
    clear hbr d1 d2 l1
    by_cases hlt : j < cs.length
    · obtain ⟨t, off, rfl, hc⟩ : ∃ t off, p = some ⟨t, off, none⟩ ∧ ∀ j, j < cs.length → wr.cell? ⟨t, off + j * 2, none⟩ = some (.int .i64 (cs.getD j (0, 0)).1) ∧ wr.cell? ⟨t, off + j * 2 + 1, none⟩ = some (.int .i64 (cs.getD j (0, 0)).2) := by
        rcases HC3.out.below HBR.out with h | h
        · rw [h] at hlt; cases hlt
        · exact h
      have e0 := (hc j hlt).1
      have htl := Same.lt_of_cell e0
      dsimp only at htl
      have hbd := Zn.offs_bd HOK.out j
      have hbx := (Zn.okC_bd cs 0 j HOK.out.2.2.2 hlt)
      have hst := Zn.skip_step (o := Zn.offs o cs j) (L := L) hlt
      obtain ⟨u, hu⟩ : ∃ u, u = Zn.offs o cs j := ⟨_, rfl⟩
      obtain ⟨x, hx⟩ : ∃ x, x = (cs.getD j (0, 0)).1 := ⟨_, rfl⟩
      obtain ⟨y, hy⟩ : ∃ y, y = (cs.getD j (0, 0)).2 := ⟨_, rfl⟩
      have hyy : y = Zn.offs o cs (j + 1) := hy
      rw [← hx] at e0
      rw [← hu, ← hx, ← hy] at hst
      rw [← hx, ← hy] at hbx
      rw [← hu] at hbd
      have wa : wrap64 (x + u) = x + u := wrap_in (by omega) (by omega)
      have wb : wrap64 (x + y) = x + y := wrap_in (by omega) (by omega)
      have hwj : wrap64 ((j : Int) + 1 - 1) = (j : Int) := by rw [Int.add_sub_cancel]; exact wrap_in (by omega) (by omega)
      have HU := Lib.hid hu
      have HYY := Lib.hid hyy
      have HSK := Lib.hid hsk
      have HST := Lib.hid hst
      have HLT := Lib.hid hlt
      have HCR := Lib.hid (HC3.out.below HBR.out)
      clear hc hu hx hy hyy hsk hst hbd hbx
      by_cases h1 : x + u ≤ L
      · by_cases h2 : L < x + y
        · have hr : res = (x, 0) := by rw [HRES.out]; unfold Zn.skS; rw [HSK.out, ← HU.out, HST.out, if_pos ⟨h1, h2⟩]
          subst hr
          go_wp2_with fail
          refine (roffset_k o _ cs cap j u wr HU.out (Nat.le_of_lt HLT.out) HN.out (HCR.out)).mono ?_
          rintro e w5 ⟨rfl, hb5⟩
          have q0 := cell_keep hb5 g0
          have q1 := cell_keep hb5 g1
          have l5 : w.heap.size < w5.heap.size := by have := hb5.size; omega
          have e5 := cell_keep hb5 e0
          have B5 := Lib.hid hb5
          clear hb5
          go_wp2_with fail
          refine (roffset_k o _ cs cap (j + 1) y w5 HYY.out HLT.out HN.out (HCR.out.below B5.out)).mono ?_
          rintro e w6 ⟨rfl, hb6⟩
          have B6 := Lib.hid (B5.out.trans (hb6.mono B5.out.size))
          clear hb6
          go_wp2_with fail
          go_ret2
          exact ⟨rfl, BE3.out.trans ((HBR.out.trans (B6.out.mono HBR.out.size)).mono BE3.out.size)⟩
        · have hgo := Lib.hid (show Zn.skip o cs L = Zn.skip (Zn.offs o cs (j + 1)) (cs.drop (j + 1)) L by rw [HSK.out, ← HU.out, HST.out, if_neg (fun h => h2 h.2), ← HYY.out])
          go_wp2_with fail
          refine (roffset_k o _ cs cap j u wr HU.out (Nat.le_of_lt HLT.out) HN.out (HCR.out)).mono ?_
          rintro e w5 ⟨rfl, hb5⟩
          have q0 := cell_keep hb5 g0
          have q1 := cell_keep hb5 g1
          have l5 : w.heap.size < w5.heap.size := by have := hb5.size; omega
          have e5 := cell_keep hb5 e0
          have B5 := Lib.hid hb5
          clear hb5
          go_wp2_with fail
          refine (roffset_k o _ cs cap (j + 1) y w5 HYY.out HLT.out HN.out (HCR.out.below B5.out)).mono ?_
          rintro e w6 ⟨rfl, hb6⟩
          have B6 := Lib.hid (B5.out.trans (hb6.mono B5.out.size))
          clear hb6
          go_wp2_with fail
          go_roundw
          case rel => exact ⟨j + 1, by simp, HLT.out, hgo.out, HBR.out.trans (B6.out.mono HBR.out.size)⟩
          case measure =>
            simp only [intOf]
            exact meas_lt2 HLT.out
      · have hgo := Lib.hid (show Zn.skip o cs L = Zn.skip (Zn.offs o cs (j + 1)) (cs.drop (j + 1)) L by rw [HSK.out, ← HU.out, HST.out, if_neg (fun h => h1 h.1), ← HYY.out])
        go_wp2_with fail
        refine (roffset_k o _ cs cap j u wr HU.out (Nat.le_of_lt HLT.out) HN.out (HCR.out)).mono ?_
        rintro e w5 ⟨rfl, hb5⟩
        have q0 := cell_keep hb5 g0
        have q1 := cell_keep hb5 g1
        have l5 : w.heap.size < w5.heap.size := by have := hb5.size; omega
        have e5 := cell_keep hb5 e0
        have B5 := Lib.hid hb5
        clear hb5
        go_wp2_with fail
        go_roundw
        case rel => exact ⟨j + 1, by simp, HLT.out, hgo.out, HBR.out.trans (B5.out.mono HBR.out.size)⟩
        case measure =>
          simp only [intOf]
          exact meas_lt2 HLT.out
    · obtain rfl : j = cs.length := by omega
      have hr : res = (0, 2) := by rw [HRES.out]; unfold Zn.skS; rw [hsk, Zn.skip_end (Nat.le_refl _)]
      subst hr
      have hno : ¬ ((cs.length : Int) + 1 ≤ cs.length) := by omega
      clear hsk
      go_wp2_with fail
      go_ret2
      exact ⟨rfl, BE3.out.trans (HBR.out.mono BE3.out.size)⟩
end Go.Proofs.Ytcacmigfpahicaa

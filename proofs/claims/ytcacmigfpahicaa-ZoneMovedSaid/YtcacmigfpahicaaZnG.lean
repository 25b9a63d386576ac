/- The walks of zone.skipping, zone.Instant, zone.Span. -/
import Derived.Test.YtcacmigfpahicaaZnF
namespace Go.Proofs.Ytcacmigfpahicaa
open Go.RowKit Go.Shelf
namespace Zn
/-- what skipping answers -/
def skS (o : Int) (cs : List (Int × Int)) (L : Int) : Int × Int := match skip o cs L with | some a => (a, 0) | none => (0, 2)
end Zn

theorem find_skips (o : Int) (p : Option Addr) (cs : List (Int × Int)) (cap : Nat) (L : Int) (ab : Nat) (w : World) (hch : Chg w p cs) (h : Zn.Ok o cs) (hab : w.cell? ⟨ab, 0, none⟩ = some (.int .i64 L)) (r : Nat) (res : Value)
    (h1 : ∀ j, j < r → j ≤ cs.length → Zn.skB o cs L j = false) (h2 : r ≤ cs.length → Zn.skB o cs L r = true)
    (hs1 : r ≤ cs.length → res = .tuple #[strV o cs r, .bool true]) (hs0 : ¬ r ≤ cs.length → res = .tuple #[.agg #[.int .i64 0, .int .i64 0, .int .i64 0, .int .i64 0], .bool false]) :
    Calls Try.prog 24 #[.agg #[.int .i64 o, .slice p cs.length cap], .func (.func 33) #[] #[.pointer (some ⟨ab, 0, none⟩)]] w fun e W' => e = .returned res ∧ Below w.heap.size w W' := by
  have hlen := h.2.2.1
  refine find_calls o p cs cap 33 #[.pointer (some ⟨ab, 0, none⟩)] (Zn.skB o cs L) r w (by omega) hch (enters_of Try.func33 (by kernel_rfl) rfl) ?_ h1 h2 res hs1 hs0
  intro k W _ hb
  have b1 := Zn.frmL_bd h k
  have b2 := Zn.offs_bd h k
  have b3 : -840 ≤ Zn.bef o cs k ∧ Zn.bef o cs k ≤ 840 := by
    cases k with
    | zero => exact ⟨h.1, h.2.1⟩
    | succ k => exact Zn.offs_bd h k
  exact skips_calls _ _ _ _ L ab W (by have := Same.lt_of_cell hab; have := hb.size; dsimp only at *; omega) (cell_keep hb hab) (by unfold wrap64; omega) (by unfold wrap64; omega)
theorem skipping_calls (o : Int) (p : Option Addr) (cs : List (Int × Int)) (cap : Nat) (L : Int) (w : World) (hch : Chg w p cs) (h : Zn.Ok o cs) :
    Calls Try.prog 29 #[.agg #[.int .i64 o, .slice p cs.length cap], .int .i64 L] w fun e w' => e = .returned (R2 (Zn.skS o cs L)) ∧ Below w.heap.size w w' := by
  obtain ⟨r, h1, h2, h3, h4⟩ := Zn.skip_at cs o L
  have HC := Lib.hid hch
  have H := Lib.hid h
  have H1 := Lib.hid h1
  have H2 := Lib.hid h2
  by_cases hr : r ≤ cs.length
  · have e : Zn.skS o cs L = (Zn.frmL 0 cs r, 0) := by unfold Zn.skS; rw [h3 hr]
    rw [e]
    have HR := Lib.hid hr
    clear hch h h1 h2 h3 h4 e hr
    go_enter Try.func29, Try.ntmps29
    go_wp2_with fail
    refine (find_skips o p cs cap L (w.heap.size + 1) _ (HC.out.below (by repeat (first | exact Below.refl _ _ | assumption | refine below_drewN ?_ _ | refine Below.setCell ?_ (by first | (simp; done) | (simp; omega)) _ | refine Below.alloc ?_ (by first | (simp; done) | (simp; omega) | omega) _ | refine Below.drew ?_ | refine Below.trans ?_ (Below.mono (by assumption) (by first | (simp; done) | (simp; omega) | omega))))) H.out (by go_simp) r _ H1.out H2.out (fun _ => rfl) (fun hn => absurd HR.out hn)).mono ?_
    rintro e w1 ⟨rfl, hb1⟩
    simp only [strV]
    have hz1 := hb1.size
    (try simp at hz1)
    go_wp2_with fail
    go_ret2
    exact ⟨rfl, (by repeat (first | exact Below.refl _ _ | assumption | refine below_drewN ?_ _ | refine Below.setCell ?_ (by first | (simp; done) | (simp; omega)) _ | refine Below.alloc ?_ (by first | (simp; done) | (simp; omega) | omega) _ | refine Below.drew ?_ | refine Below.trans ?_ (Below.mono (by assumption) (by first | (simp; done) | (simp; omega) | omega))))⟩
  · have e : Zn.skS o cs L = (0, 2) := by unfold Zn.skS; rw [h4 hr]
    rw [e]
    have HR := Lib.hid hr
    clear hch h h1 h2 h3 h4 e hr
    go_enter Try.func29, Try.ntmps29
    go_wp2_with fail
    refine (find_skips o p cs cap L (w.heap.size + 1) _ (HC.out.below (by repeat (first | exact Below.refl _ _ | assumption | refine below_drewN ?_ _ | refine Below.setCell ?_ (by first | (simp; done) | (simp; omega)) _ | refine Below.alloc ?_ (by first | (simp; done) | (simp; omega) | omega) _ | refine Below.drew ?_ | refine Below.trans ?_ (Below.mono (by assumption) (by first | (simp; done) | (simp; omega) | omega))))) H.out (by go_simp) r _ H1.out H2.out (fun hp => absurd hp HR.out) (fun _ => rfl)).mono ?_
    rintro e w1 ⟨rfl, hb1⟩
    have hz1 := hb1.size
    (try simp at hz1)
    go_wp2_with fail
    go_ret2
    exact ⟨rfl, (by repeat (first | exact Below.refl _ _ | assumption | refine below_drewN ?_ _ | refine Below.setCell ?_ (by first | (simp; done) | (simp; omega)) _ | refine Below.alloc ?_ (by first | (simp; done) | (simp; omega) | omega) _ | refine Below.drew ?_ | refine Below.trans ?_ (Below.mono (by assumption) (by first | (simp; done) | (simp; omega) | omega))))⟩
theorem instant_bad (o : Int) (p : Option Addr) (cs : List (Int × Int)) (cap : Nat) (d m : Int) (later : Bool) (w : World) (hch : Chg w p cs) (h : ¬ Zn.Ok o cs) :
    Calls Try.prog 13 #[.agg #[.int .i64 o, .slice p cs.length cap], .int .i64 d, .int .i64 m, .bool later] w fun e w' => e = .returned (R2 (Zn.instantS o cs d m later)) ∧ Below w.heap.size w w' := by
  have e : Zn.instantS o cs d m later = (0, 1) := by unfold Zn.instantS; rw [if_neg (fun k => h k.1)]
  rw [e]
  have HC := Lib.hid hch
  have H := Lib.hid h
  clear hch h e
  go_enter Try.func13, Try.ntmps13
  go_wp2_with fail
  refine (valid_no (HC.out.below (by repeat (first | exact Below.refl _ _ | assumption | refine below_drewN ?_ _ | refine Below.setCell ?_ (by first | (simp; done) | (simp; omega)) _ | refine Below.alloc ?_ (by first | (simp; done) | (simp; omega) | omega) _ | refine Below.drew ?_ | refine Below.trans ?_ (Below.mono (by assumption) (by first | (simp; done) | (simp; omega) | omega))))) H.out).mono ?_
  rintro e w1 ⟨rfl, hb1⟩
  go_wp2_with fail
  go_ret2
  exact ⟨rfl, (by repeat (first | exact Below.refl _ _ | assumption | refine below_drewN ?_ _ | refine Below.setCell ?_ (by first | (simp; done) | (simp; omega)) _ | refine Below.alloc ?_ (by first | (simp; done) | (simp; omega) | omega) _ | refine Below.drew ?_ | refine Below.trans ?_ (Below.mono (by assumption) (by first | (simp; done) | (simp; omega) | omega))))⟩
theorem instant_far (o : Int) (p : Option Addr) (cs : List (Int × Int)) (cap : Nat) (d m : Int) (later : Bool) (w : World) (hch : Chg w p cs) (h : Zn.Ok o cs) (hl : ¬ (0 ≤ d ∧ d ≤ 73048 ∧ 0 ≤ m ∧ m ≤ 1439)) :
    Calls Try.prog 13 #[.agg #[.int .i64 o, .slice p cs.length cap], .int .i64 d, .int .i64 m, .bool later] w fun e w' => e = .returned (R2 (Zn.instantS o cs d m later)) ∧ Below w.heap.size w w' := by
  have e : Zn.instantS o cs d m later = (0, 1) := by unfold Zn.instantS; rw [if_neg (fun k => hl k.2)]
  rw [e]
  have HC := Lib.hid hch
  have H := Lib.hid h
  have HL := Lib.hid hl
  clear hch h hl e
  go_enter Try.func13, Try.ntmps13
  go_wp2_with fail
  refine (valid_yes (HC.out.below (by repeat (first | exact Below.refl _ _ | assumption | refine below_drewN ?_ _ | refine Below.setCell ?_ (by first | (simp; done) | (simp; omega)) _ | refine Below.alloc ?_ (by first | (simp; done) | (simp; omega) | omega) _ | refine Below.drew ?_ | refine Below.trans ?_ (Below.mono (by assumption) (by first | (simp; done) | (simp; omega) | omega))))) H.out).mono ?_
  rintro e w1 ⟨rfl, hb1⟩
  go_wp2_with fail
  refine (isLocal_no _ _ _ HL.out).mono ?_
  rintro e w2 ⟨rfl, rfl⟩
  go_wp2_with fail
  go_ret2
  exact ⟨rfl, (by repeat (first | exact Below.refl _ _ | assumption | refine below_drewN ?_ _ | refine Below.setCell ?_ (by first | (simp; done) | (simp; omega)) _ | refine Below.alloc ?_ (by first | (simp; done) | (simp; omega) | omega) _ | refine Below.drew ?_ | refine Below.trans ?_ (Below.mono (by assumption) (by first | (simp; done) | (simp; omega) | omega))))⟩
set_option maxHeartbeats 800000 in
theorem instant_none (o : Int) (p : Option Addr) (cs : List (Int × Int)) (cap : Nat) (d m : Int) (later : Bool) (w : World) (hch : Chg w p cs) (h : Zn.Ok o cs) (hl : 0 ≤ d ∧ d ≤ 73048 ∧ 0 ≤ m ∧ m ≤ 1439) (hx : Zn.instS o cs d m = []) :
    Calls Try.prog 13 #[.agg #[.int .i64 o, .slice p cs.length cap], .int .i64 d, .int .i64 m, .bool later] w fun e w' => e = .returned (R2 (Zn.skS o cs (d * 1440 + m))) ∧ Below w.heap.size w w' := by
  have w1 : wrap64 (d * 1440) = d * 1440 := by unfold wrap64; omega
  have w2 : wrap64 (d * 1440 + m) = d * 1440 + m := by unfold wrap64; omega
  have HC := Lib.hid hch
  have H := Lib.hid h
  have HL := Lib.hid hl
  have HX := Lib.hid hx
  clear hch h hl hx
  go_enter Try.func13, Try.ntmps13
  go_wp2_with fail
  refine (valid_yes (HC.out.below (by repeat (first | exact Below.refl _ _ | assumption | refine below_drewN ?_ _ | refine Below.setCell ?_ (by first | (simp; done) | (simp; omega)) _ | refine Below.alloc ?_ (by first | (simp; done) | (simp; omega) | omega) _ | refine Below.drew ?_ | refine Below.trans ?_ (Below.mono (by assumption) (by first | (simp; done) | (simp; omega) | omega))))) H.out).mono ?_
  rintro e w1 ⟨rfl, hb1⟩
  have hz1 := hb1.size
  (try simp at hz1)
  have c1 : w1.cell? ⟨w.heap.size, 0, none⟩ = some (.int .i64 o) := cell_keep hb1 (by go_simp)
  have c2 : w1.cell? ⟨w.heap.size, 1, none⟩ = some (.slice p cs.length cap) := cell_keep hb1 (by go_simp)
  have be1 : Below w.heap.size w w1 := (by repeat (first | exact Below.refl _ _ | assumption | refine below_drewN ?_ _ | refine Below.setCell ?_ (by first | (simp; done) | (simp; omega)) _ | refine Below.alloc ?_ (by first | (simp; done) | (simp; omega) | omega) _ | refine Below.drew ?_ | refine Below.trans ?_ (Below.mono (by assumption) (by first | (simp; done) | (simp; omega) | omega))))
  have BE1 := Lib.hid be1
  clear hb1 be1
  go_wp2_with fail
  refine (isLocal_yes _ _ _ HL.out).mono ?_
  rintro e w2 ⟨rfl, rfl⟩
  go_wp2_with fail
  refine (instants_calls o p cs cap d m w1 (HC.out.below BE1.out)).mono ?_
  rintro e w3 ⟨v, rfl, hv, hb3⟩
  rw [HX.out] at hv
  obtain ⟨q, cap2, rfl, hcells⟩ := hv
  have hz3 := hb3.size
  have d1 : w3.cell? ⟨w.heap.size, 0, none⟩ = some (.int .i64 o) := cell_keep hb3 c1
  have d2 : w3.cell? ⟨w.heap.size, 1, none⟩ = some (.slice p cs.length cap) := cell_keep hb3 c2
  have l1 : w.heap.size < w3.heap.size := by omega
  have BE3 := Lib.hid (BE1.out.trans (hb3.mono BE1.out.size))
  clear hb3 c1 c2
  simp only [List.length_nil]
  clear hcells
  go_wp2_with fail
  refine (skipping_calls o p cs cap (d * 1440 + m) w3 (HC.out.below BE3.out) H.out).mono ?_
  rintro e w4 ⟨rfl, hb4⟩
  unfold R2
  go_wp2_with fail
  go_ret2
  exact ⟨rfl, BE3.out.trans (hb4.mono BE3.out.size)⟩
set_option maxHeartbeats 800000 in
theorem instant_one_f (o : Int) (p : Option Addr) (cs : List (Int × Int)) (cap : Nat) (d m : Int) (w : World) (hch : Chg w p cs) (h : Zn.Ok o cs) (hl : 0 ≤ d ∧ d ≤ 73048 ∧ 0 ≤ m ∧ m ≤ 1439) (x : Int) (hx : Zn.instS o cs d m = [x]) :
    Calls Try.prog 13 #[.agg #[.int .i64 o, .slice p cs.length cap], .int .i64 d, .int .i64 m, .bool false] w fun e w' => e = .returned (R2 (x, 0)) ∧ Below w.heap.size w w' := by
  have w1 : wrap64 (d * 1440) = d * 1440 := by unfold wrap64; omega
  have w2 : wrap64 (d * 1440 + m) = d * 1440 + m := by unfold wrap64; omega
  have HC := Lib.hid hch
  have H := Lib.hid h
  have HL := Lib.hid hl
  have HX := Lib.hid hx
  clear hch h hl hx
  go_enter Try.func13, Try.ntmps13
  go_wp2_with fail
  refine (valid_yes (HC.out.below (by repeat (first | exact Below.refl _ _ | assumption | refine below_drewN ?_ _ | refine Below.setCell ?_ (by first | (simp; done) | (simp; omega)) _ | refine Below.alloc ?_ (by first | (simp; done) | (simp; omega) | omega) _ | refine Below.drew ?_ | refine Below.trans ?_ (Below.mono (by assumption) (by first | (simp; done) | (simp; omega) | omega))))) H.out).mono ?_
  rintro e w1 ⟨rfl, hb1⟩
  have hz1 := hb1.size
  (try simp at hz1)
  have c1 : w1.cell? ⟨w.heap.size, 0, none⟩ = some (.int .i64 o) := cell_keep hb1 (by go_simp)
  have c2 : w1.cell? ⟨w.heap.size, 1, none⟩ = some (.slice p cs.length cap) := cell_keep hb1 (by go_simp)
  have be1 : Below w.heap.size w w1 := (by repeat (first | exact Below.refl _ _ | assumption | refine below_drewN ?_ _ | refine Below.setCell ?_ (by first | (simp; done) | (simp; omega)) _ | refine Below.alloc ?_ (by first | (simp; done) | (simp; omega) | omega) _ | refine Below.drew ?_ | refine Below.trans ?_ (Below.mono (by assumption) (by first | (simp; done) | (simp; omega) | omega))))
  have BE1 := Lib.hid be1
  clear hb1 be1
  go_wp2_with fail
  refine (isLocal_yes _ _ _ HL.out).mono ?_
  rintro e w2 ⟨rfl, rfl⟩
  go_wp2_with fail
  refine (instants_calls o p cs cap d m w1 (HC.out.below BE1.out)).mono ?_
  rintro e w3 ⟨v, rfl, hv, hb3⟩
  rw [HX.out] at hv
  obtain ⟨q, cap2, rfl, hcells⟩ := hv
  have hz3 := hb3.size
  have d1 : w3.cell? ⟨w.heap.size, 0, none⟩ = some (.int .i64 o) := cell_keep hb3 c1
  have d2 : w3.cell? ⟨w.heap.size, 1, none⟩ = some (.slice p cs.length cap) := cell_keep hb3 c2
  have l1 : w.heap.size < w3.heap.size := by omega
  have BE3 := Lib.hid (BE1.out.trans (hb3.mono BE1.out.size))
  clear hb3 c1 c2
  obtain ⟨b, rfl, hc⟩ := hcells.resolve_left (by simp)
  have x0 : w3.cell? ⟨b, 0, none⟩ = some (.int .i64 x) := hc 0 (by simp)
  have hbl := Same.lt_of_cell x0
  dsimp only at hbl
  simp only [List.length_cons, List.length_nil, Nat.zero_add]
  clear hc
  go_wp2_with fail
  go_ret2
  exact ⟨rfl, BE3.out⟩
set_option maxHeartbeats 800000 in
theorem instant_one_t (o : Int) (p : Option Addr) (cs : List (Int × Int)) (cap : Nat) (d m : Int) (w : World) (hch : Chg w p cs) (h : Zn.Ok o cs) (hl : 0 ≤ d ∧ d ≤ 73048 ∧ 0 ≤ m ∧ m ≤ 1439) (x : Int) (hx : Zn.instS o cs d m = [x]) :
    Calls Try.prog 13 #[.agg #[.int .i64 o, .slice p cs.length cap], .int .i64 d, .int .i64 m, .bool true] w fun e w' => e = .returned (R2 (x, 0)) ∧ Below w.heap.size w w' := by
  have w1 : wrap64 (d * 1440) = d * 1440 := by unfold wrap64; omega
  have w2 : wrap64 (d * 1440 + m) = d * 1440 + m := by unfold wrap64; omega
  have HC := Lib.hid hch
  have H := Lib.hid h
  have HL := Lib.hid hl
  have HX := Lib.hid hx
  clear hch h hl hx
  go_enter Try.func13, Try.ntmps13
  go_wp2_with fail
  refine (valid_yes (HC.out.below (by repeat (first | exact Below.refl _ _ | assumption | refine below_drewN ?_ _ | refine Below.setCell ?_ (by first | (simp; done) | (simp; omega)) _ | refine Below.alloc ?_ (by first | (simp; done) | (simp; omega) | omega) _ | refine Below.drew ?_ | refine Below.trans ?_ (Below.mono (by assumption) (by first | (simp; done) | (simp; omega) | omega))))) H.out).mono ?_
  rintro e w1 ⟨rfl, hb1⟩
  have hz1 := hb1.size
  (try simp at hz1)
  have c1 : w1.cell? ⟨w.heap.size, 0, none⟩ = some (.int .i64 o) := cell_keep hb1 (by go_simp)
  have c2 : w1.cell? ⟨w.heap.size, 1, none⟩ = some (.slice p cs.length cap) := cell_keep hb1 (by go_simp)
  have be1 : Below w.heap.size w w1 := (by repeat (first | exact Below.refl _ _ | assumption | refine below_drewN ?_ _ | refine Below.setCell ?_ (by first | (simp; done) | (simp; omega)) _ | refine Below.alloc ?_ (by first | (simp; done) | (simp; omega) | omega) _ | refine Below.drew ?_ | refine Below.trans ?_ (Below.mono (by assumption) (by first | (simp; done) | (simp; omega) | omega))))
  have BE1 := Lib.hid be1
  clear hb1 be1
  go_wp2_with fail
  refine (isLocal_yes _ _ _ HL.out).mono ?_
  rintro e w2 ⟨rfl, rfl⟩
  go_wp2_with fail
  refine (instants_calls o p cs cap d m w1 (HC.out.below BE1.out)).mono ?_
  rintro e w3 ⟨v, rfl, hv, hb3⟩
  rw [HX.out] at hv
  obtain ⟨q, cap2, rfl, hcells⟩ := hv
  have hz3 := hb3.size
  have d1 : w3.cell? ⟨w.heap.size, 0, none⟩ = some (.int .i64 o) := cell_keep hb3 c1
  have d2 : w3.cell? ⟨w.heap.size, 1, none⟩ = some (.slice p cs.length cap) := cell_keep hb3 c2
  have l1 : w.heap.size < w3.heap.size := by omega
  have BE3 := Lib.hid (BE1.out.trans (hb3.mono BE1.out.size))
  clear hb3 c1 c2
  obtain ⟨b, rfl, hc⟩ := hcells.resolve_left (by simp)
  have x0 : w3.cell? ⟨b, 0, none⟩ = some (.int .i64 x) := hc 0 (by simp)
  have hbl := Same.lt_of_cell x0
  dsimp only at hbl
  simp only [List.length_cons, List.length_nil, Nat.zero_add]
  clear hc
  go_wp2_with fail
  go_ret2
  exact ⟨rfl, BE3.out⟩
set_option maxHeartbeats 800000 in
theorem instant_two_f (o : Int) (p : Option Addr) (cs : List (Int × Int)) (cap : Nat) (d m : Int) (w : World) (hch : Chg w p cs) (h : Zn.Ok o cs) (hl : 0 ≤ d ∧ d ≤ 73048 ∧ 0 ≤ m ∧ m ≤ 1439) (x y : Int) (hx : Zn.instS o cs d m = [x, y]) :
    Calls Try.prog 13 #[.agg #[.int .i64 o, .slice p cs.length cap], .int .i64 d, .int .i64 m, .bool false] w fun e w' => e = .returned (R2 (x, 0)) ∧ Below w.heap.size w w' := by
  have w1 : wrap64 (d * 1440) = d * 1440 := by unfold wrap64; omega
  have w2 : wrap64 (d * 1440 + m) = d * 1440 + m := by unfold wrap64; omega
  have HC := Lib.hid hch
  have H := Lib.hid h
  have HL := Lib.hid hl
  have HX := Lib.hid hx
  clear hch h hl hx
  go_enter Try.func13, Try.ntmps13
  go_wp2_with fail
  refine (valid_yes (HC.out.below (by repeat (first | exact Below.refl _ _ | assumption | refine below_drewN ?_ _ | refine Below.setCell ?_ (by first | (simp; done) | (simp; omega)) _ | refine Below.alloc ?_ (by first | (simp; done) | (simp; omega) | omega) _ | refine Below.drew ?_ | refine Below.trans ?_ (Below.mono (by assumption) (by first | (simp; done) | (simp; omega) | omega))))) H.out).mono ?_
  rintro e w1 ⟨rfl, hb1⟩
  have hz1 := hb1.size
  (try simp at hz1)
  have c1 : w1.cell? ⟨w.heap.size, 0, none⟩ = some (.int .i64 o) := cell_keep hb1 (by go_simp)
  have c2 : w1.cell? ⟨w.heap.size, 1, none⟩ = some (.slice p cs.length cap) := cell_keep hb1 (by go_simp)
  have be1 : Below w.heap.size w w1 := (by repeat (first | exact Below.refl _ _ | assumption | refine below_drewN ?_ _ | refine Below.setCell ?_ (by first | (simp; done) | (simp; omega)) _ | refine Below.alloc ?_ (by first | (simp; done) | (simp; omega) | omega) _ | refine Below.drew ?_ | refine Below.trans ?_ (Below.mono (by assumption) (by first | (simp; done) | (simp; omega) | omega))))
  have BE1 := Lib.hid be1
  clear hb1 be1
  go_wp2_with fail
  refine (isLocal_yes _ _ _ HL.out).mono ?_
  rintro e w2 ⟨rfl, rfl⟩
  go_wp2_with fail
  refine (instants_calls o p cs cap d m w1 (HC.out.below BE1.out)).mono ?_
  rintro e w3 ⟨v, rfl, hv, hb3⟩
  rw [HX.out] at hv
  obtain ⟨q, cap2, rfl, hcells⟩ := hv
  have hz3 := hb3.size
  have d1 : w3.cell? ⟨w.heap.size, 0, none⟩ = some (.int .i64 o) := cell_keep hb3 c1
  have d2 : w3.cell? ⟨w.heap.size, 1, none⟩ = some (.slice p cs.length cap) := cell_keep hb3 c2
  have l1 : w.heap.size < w3.heap.size := by omega
  have BE3 := Lib.hid (BE1.out.trans (hb3.mono BE1.out.size))
  clear hb3 c1 c2
  obtain ⟨b, rfl, hc⟩ := hcells.resolve_left (by simp)
  have x0 : w3.cell? ⟨b, 0, none⟩ = some (.int .i64 x) := hc 0 (by simp)
  have hbl := Same.lt_of_cell x0
  dsimp only at hbl
  simp only [List.length_cons, List.length_nil, Nat.zero_add, Nat.reduceAdd]
  have x1 : w3.cell? ⟨b, 1, none⟩ = some (.int .i64 y) := hc 1 (by simp)
  clear hc
  go_wp2_with fail
  go_ret2
  exact ⟨rfl, BE3.out⟩
set_option maxHeartbeats 800000 in
theorem instant_two_t (o : Int) (p : Option Addr) (cs : List (Int × Int)) (cap : Nat) (d m : Int) (w : World) (hch : Chg w p cs) (h : Zn.Ok o cs) (hl : 0 ≤ d ∧ d ≤ 73048 ∧ 0 ≤ m ∧ m ≤ 1439) (x y : Int) (hx : Zn.instS o cs d m = [x, y]) :
    Calls Try.prog 13 #[.agg #[.int .i64 o, .slice p cs.length cap], .int .i64 d, .int .i64 m, .bool true] w fun e w' => e = .returned (R2 (y, 0)) ∧ Below w.heap.size w w' := by
  have w1 : wrap64 (d * 1440) = d * 1440 := by unfold wrap64; omega
  have w2 : wrap64 (d * 1440 + m) = d * 1440 + m := by unfold wrap64; omega
  have HC := Lib.hid hch
  have H := Lib.hid h
  have HL := Lib.hid hl
  have HX := Lib.hid hx
  clear hch h hl hx
  go_enter Try.func13, Try.ntmps13
  go_wp2_with fail
  refine (valid_yes (HC.out.below (by repeat (first | exact Below.refl _ _ | assumption | refine below_drewN ?_ _ | refine Below.setCell ?_ (by first | (simp; done) | (simp; omega)) _ | refine Below.alloc ?_ (by first | (simp; done) | (simp; omega) | omega) _ | refine Below.drew ?_ | refine Below.trans ?_ (Below.mono (by assumption) (by first | (simp; done) | (simp; omega) | omega))))) H.out).mono ?_
  rintro e w1 ⟨rfl, hb1⟩
  have hz1 := hb1.size
  (try simp at hz1)
  have c1 : w1.cell? ⟨w.heap.size, 0, none⟩ = some (.int .i64 o) := cell_keep hb1 (by go_simp)
  have c2 : w1.cell? ⟨w.heap.size, 1, none⟩ = some (.slice p cs.length cap) := cell_keep hb1 (by go_simp)
  have be1 : Below w.heap.size w w1 := (by repeat (first | exact Below.refl _ _ | assumption | refine below_drewN ?_ _ | refine Below.setCell ?_ (by first | (simp; done) | (simp; omega)) _ | refine Below.alloc ?_ (by first | (simp; done) | (simp; omega) | omega) _ | refine Below.drew ?_ | refine Below.trans ?_ (Below.mono (by assumption) (by first | (simp; done) | (simp; omega) | omega))))
  have BE1 := Lib.hid be1
  clear hb1 be1
  go_wp2_with fail
  refine (isLocal_yes _ _ _ HL.out).mono ?_
  rintro e w2 ⟨rfl, rfl⟩
  go_wp2_with fail
  refine (instants_calls o p cs cap d m w1 (HC.out.below BE1.out)).mono ?_
  rintro e w3 ⟨v, rfl, hv, hb3⟩
  rw [HX.out] at hv
  obtain ⟨q, cap2, rfl, hcells⟩ := hv
  have hz3 := hb3.size
  have d1 : w3.cell? ⟨w.heap.size, 0, none⟩ = some (.int .i64 o) := cell_keep hb3 c1
  have d2 : w3.cell? ⟨w.heap.size, 1, none⟩ = some (.slice p cs.length cap) := cell_keep hb3 c2
  have l1 : w.heap.size < w3.heap.size := by omega
  have BE3 := Lib.hid (BE1.out.trans (hb3.mono BE1.out.size))
  clear hb3 c1 c2
  obtain ⟨b, rfl, hc⟩ := hcells.resolve_left (by simp)
  have x0 : w3.cell? ⟨b, 0, none⟩ = some (.int .i64 x) := hc 0 (by simp)
  have hbl := Same.lt_of_cell x0
  dsimp only at hbl
  simp only [List.length_cons, List.length_nil, Nat.zero_add, Nat.reduceAdd]
  have x1 : w3.cell? ⟨b, 1, none⟩ = some (.int .i64 y) := hc 1 (by simp)
  clear hc
  go_wp2_with fail
  go_ret2
  exact ⟨rfl, BE3.out⟩
theorem instant_calls (o : Int) (p : Option Addr) (cs : List (Int × Int)) (cap : Nat) (d m : Int) (later : Bool) (w : World) (hch : Chg w p cs) :
    Calls Try.prog 13 #[.agg #[.int .i64 o, .slice p cs.length cap], .int .i64 d, .int .i64 m, .bool later] w fun e w' => e = .returned (R2 (Zn.instantS o cs d m later)) ∧ Below w.heap.size w w' := by
  by_cases h : Zn.Ok o cs
  · by_cases hl : 0 ≤ d ∧ d ≤ 73048 ∧ 0 ≤ m ∧ m ≤ 1439
    · have hg : Zn.good o cs d m := ⟨h, hl⟩
      have e1 : Zn.instS o cs d m = Zn.inst 0 o cs (d * 1440 + m) := by unfold Zn.instS; rw [if_pos hg]
      have e2 : Zn.instantS o cs d m later = Zn.pickS (Zn.inst 0 o cs (d * 1440 + m)) (Zn.skip o cs (d * 1440 + m)) later := by unfold Zn.instantS; rw [if_pos hg]
      have h2 := Zn.inst_two cs 0 o (d * 1440 + m) h.1 h.2.1 h.2.2.2
      rcases hi : Zn.inst 0 o cs (d * 1440 + m) with _ | ⟨x, _ | ⟨y, _ | ⟨z, l⟩⟩⟩
      · have e3 : Zn.instantS o cs d m later = Zn.skS o cs (d * 1440 + m) := by
          rw [e2, hi]
          unfold Zn.pickS Zn.skS
          cases Zn.skip o cs (d * 1440 + m) <;> rfl
        rw [e3]
        exact instant_none o p cs cap d m later w hch h hl (e1.trans hi)
      · have e3 : Zn.instantS o cs d m later = (x, 0) := by rw [e2, hi]; unfold Zn.pickS; cases later <;> rfl
        rw [e3]
        cases later with
        | false => exact instant_one_f o p cs cap d m w hch h hl x (e1.trans hi)
        | true => exact instant_one_t o p cs cap d m w hch h hl x (e1.trans hi)
      · cases later with
        | false =>
          have e3 : Zn.instantS o cs d m false = (x, 0) := by rw [e2, hi]; rfl
          rw [e3]
          exact instant_two_f o p cs cap d m w hch h hl x y (e1.trans hi)
        | true =>
          have e3 : Zn.instantS o cs d m true = (y, 0) := by rw [e2, hi]; rfl
          rw [e3]
          exact instant_two_t o p cs cap d m w hch h hl x y (e1.trans hi)
      · rw [hi] at h2
        simp at h2
    · exact instant_far o p cs cap d m later w hch h hl
  · exact instant_bad o p cs cap d m later w hch h
set_option maxHeartbeats 800000 in
theorem span_bad (o : Int) (p : Option Addr) (cs : List (Int × Int)) (cap : Nat) (d : Int) (w : World) (hch : Chg w p cs) (h : ¬ Zn.Ok o cs) :
    Calls Try.prog 15 #[.agg #[.int .i64 o, .slice p cs.length cap], .int .i64 d] w fun e w' => e = .returned (R3 (0, 0, 1)) ∧ Below w.heap.size w w' := by
  have HC := Lib.hid hch
  have H := Lib.hid h
  clear hch h
  go_enter Try.func15, Try.ntmps15
  go_wp2_with fail
  refine (valid_no (HC.out.below (by repeat (first | exact Below.refl _ _ | assumption | refine below_drewN ?_ _ | refine Below.setCell ?_ (by first | (simp; done) | (simp; omega)) _ | refine Below.alloc ?_ (by first | (simp; done) | (simp; omega) | omega) _ | refine Below.drew ?_ | refine Below.trans ?_ (Below.mono (by assumption) (by first | (simp; done) | (simp; omega) | omega))))) H.out).mono ?_
  rintro e w1 ⟨rfl, hb1⟩
  go_wp2_with fail
  go_ret3
  exact ⟨rfl, (by repeat (first | exact Below.refl _ _ | assumption | refine below_drewN ?_ _ | refine Below.setCell ?_ (by first | (simp; done) | (simp; omega)) _ | refine Below.alloc ?_ (by first | (simp; done) | (simp; omega) | omega) _ | refine Below.drew ?_ | refine Below.trans ?_ (Below.mono (by assumption) (by first | (simp; done) | (simp; omega) | omega))))⟩
set_option maxHeartbeats 800000 in
theorem span_neg (o : Int) (p : Option Addr) (cs : List (Int × Int)) (cap : Nat) (d : Int) (w : World) (hch : Chg w p cs) (h : Zn.Ok o cs) (hd : d < 0) :
    Calls Try.prog 15 #[.agg #[.int .i64 o, .slice p cs.length cap], .int .i64 d] w fun e w' => e = .returned (R3 (0, 0, 1)) ∧ Below w.heap.size w w' := by
  have HC := Lib.hid hch
  have H := Lib.hid h
  clear hch h
  go_enter Try.func15, Try.ntmps15
  go_wp2_with fail
  refine (valid_yes (HC.out.below (by repeat (first | exact Below.refl _ _ | assumption | refine below_drewN ?_ _ | refine Below.setCell ?_ (by first | (simp; done) | (simp; omega)) _ | refine Below.alloc ?_ (by first | (simp; done) | (simp; omega) | omega) _ | refine Below.drew ?_ | refine Below.trans ?_ (Below.mono (by assumption) (by first | (simp; done) | (simp; omega) | omega))))) H.out).mono ?_
  rintro e w1 ⟨rfl, hb1⟩
  go_wp2_with fail
  go_ret3
  exact ⟨rfl, (by repeat (first | exact Below.refl _ _ | assumption | refine below_drewN ?_ _ | refine Below.setCell ?_ (by first | (simp; done) | (simp; omega)) _ | refine Below.alloc ?_ (by first | (simp; done) | (simp; omega) | omega) _ | refine Below.drew ?_ | refine Below.trans ?_ (Below.mono (by assumption) (by first | (simp; done) | (simp; omega) | omega))))⟩
set_option maxHeartbeats 800000 in
theorem span_far (o : Int) (p : Option Addr) (cs : List (Int × Int)) (cap : Nat) (d : Int) (w : World) (hch : Chg w p cs) (h : Zn.Ok o cs) (h0 : 0 ≤ d) (hd : 73048 ≤ d) :
    Calls Try.prog 15 #[.agg #[.int .i64 o, .slice p cs.length cap], .int .i64 d] w fun e w' => e = .returned (R3 (0, 0, 1)) ∧ Below w.heap.size w w' := by
  have HC := Lib.hid hch
  have H := Lib.hid h
  clear hch h
  go_enter Try.func15, Try.ntmps15
  go_wp2_with fail
  refine (valid_yes (HC.out.below (by repeat (first | exact Below.refl _ _ | assumption | refine below_drewN ?_ _ | refine Below.setCell ?_ (by first | (simp; done) | (simp; omega)) _ | refine Below.alloc ?_ (by first | (simp; done) | (simp; omega) | omega) _ | refine Below.drew ?_ | refine Below.trans ?_ (Below.mono (by assumption) (by first | (simp; done) | (simp; omega) | omega))))) H.out).mono ?_
  rintro e w1 ⟨rfl, hb1⟩
  go_wp2_with fail
  go_ret3
  exact ⟨rfl, (by repeat (first | exact Below.refl _ _ | assumption | refine below_drewN ?_ _ | refine Below.setCell ?_ (by first | (simp; done) | (simp; omega)) _ | refine Below.alloc ?_ (by first | (simp; done) | (simp; omega) | omega) _ | refine Below.drew ?_ | refine Below.trans ?_ (Below.mono (by assumption) (by first | (simp; done) | (simp; omega) | omega))))⟩
set_option maxHeartbeats 800000 in
theorem span_e1 (o : Int) (p : Option Addr) (cs : List (Int × Int)) (cap : Nat) (d : Int) (w : World) (hch : Chg w p cs) (h : Zn.Ok o cs) (hd : 0 ≤ d ∧ d ≤ 73047) (x e1 : Int) (hi : Zn.instantS o cs d 0 false = (x, e1)) (he : e1 ≠ 0) :
    Calls Try.prog 15 #[.agg #[.int .i64 o, .slice p cs.length cap], .int .i64 d] w fun e w' => e = .returned (R3 (0, 0, e1)) ∧ Below w.heap.size w w' := by
  have HC := Lib.hid hch
  obtain ⟨hd0, hd1⟩ := hd
  have wd : wrap64 (d + 1) = d + 1 := by unfold wrap64; omega
  have hd2 : ¬ 73048 ≤ d := by omega
  have H := Lib.hid h
  have HI := Lib.hid hi
  clear hch h hi
  go_enter Try.func15, Try.ntmps15
  go_wp2_with fail
  refine (valid_yes (HC.out.below (by repeat (first | exact Below.refl _ _ | assumption | refine below_drewN ?_ _ | refine Below.setCell ?_ (by first | (simp; done) | (simp; omega)) _ | refine Below.alloc ?_ (by first | (simp; done) | (simp; omega) | omega) _ | refine Below.drew ?_ | refine Below.trans ?_ (Below.mono (by assumption) (by first | (simp; done) | (simp; omega) | omega))))) H.out).mono ?_
  rintro e w1 ⟨rfl, hb1⟩
  have hz1 := hb1.size
  (try simp at hz1)
  have c1 : w1.cell? ⟨w.heap.size, 0, none⟩ = some (.int .i64 o) := cell_keep hb1 (by go_simp)
  have c2 : w1.cell? ⟨w.heap.size, 1, none⟩ = some (.slice p cs.length cap) := cell_keep hb1 (by go_simp)
  have be1 : Below w.heap.size w w1 := (by repeat (first | exact Below.refl _ _ | assumption | refine below_drewN ?_ _ | refine Below.setCell ?_ (by first | (simp; done) | (simp; omega)) _ | refine Below.alloc ?_ (by first | (simp; done) | (simp; omega) | omega) _ | refine Below.drew ?_ | refine Below.trans ?_ (Below.mono (by assumption) (by first | (simp; done) | (simp; omega) | omega))))
  have BE1 := Lib.hid be1
  clear hb1 be1
  go_wp2_with fail
  refine (instant_calls o p cs cap d 0 false w1 (HC.out.below BE1.out)).mono ?_
  rintro e w3 ⟨rfl, hb3⟩
  rw [HI.out]
  unfold R2
  have hz3 := hb3.size
  have d1 : w3.cell? ⟨w.heap.size, 0, none⟩ = some (.int .i64 o) := cell_keep hb3 c1
  have d2 : w3.cell? ⟨w.heap.size, 1, none⟩ = some (.slice p cs.length cap) := cell_keep hb3 c2
  have l1 : w.heap.size < w3.heap.size := by omega
  have BE3 := Lib.hid (BE1.out.trans (hb3.mono BE1.out.size))
  clear hb3 c1 c2
  have hbe : (e1 == 0) = false := by simpa using he
  clear he
  go_wp2_with fail
  go_ret3
  exact ⟨rfl, BE3.out⟩
set_option maxHeartbeats 800000 in
theorem span_e2 (o : Int) (p : Option Addr) (cs : List (Int × Int)) (cap : Nat) (d : Int) (w : World) (hch : Chg w p cs) (h : Zn.Ok o cs) (hd : 0 ≤ d ∧ d ≤ 73047) (x y e2 : Int) (hi : Zn.instantS o cs d 0 false = (x, 0)) (hj : Zn.instantS o cs (d + 1) 0 false = (y, e2)) (he : e2 ≠ 0) :
    Calls Try.prog 15 #[.agg #[.int .i64 o, .slice p cs.length cap], .int .i64 d] w fun e w' => e = .returned (R3 (0, 0, e2)) ∧ Below w.heap.size w w' := by
  have HC := Lib.hid hch
  obtain ⟨hd0, hd1⟩ := hd
  have wd : wrap64 (d + 1) = d + 1 := by unfold wrap64; omega
  have hd2 : ¬ 73048 ≤ d := by omega
  have H := Lib.hid h
  have HI := Lib.hid hi
  have HJ := Lib.hid hj
  clear hch h hi hj
  go_enter Try.func15, Try.ntmps15
  go_wp2_with fail
  refine (valid_yes (HC.out.below (by repeat (first | exact Below.refl _ _ | assumption | refine below_drewN ?_ _ | refine Below.setCell ?_ (by first | (simp; done) | (simp; omega)) _ | refine Below.alloc ?_ (by first | (simp; done) | (simp; omega) | omega) _ | refine Below.drew ?_ | refine Below.trans ?_ (Below.mono (by assumption) (by first | (simp; done) | (simp; omega) | omega))))) H.out).mono ?_
  rintro e w1 ⟨rfl, hb1⟩
  have hz1 := hb1.size
  (try simp at hz1)
  have c1 : w1.cell? ⟨w.heap.size, 0, none⟩ = some (.int .i64 o) := cell_keep hb1 (by go_simp)
  have c2 : w1.cell? ⟨w.heap.size, 1, none⟩ = some (.slice p cs.length cap) := cell_keep hb1 (by go_simp)
  have be1 : Below w.heap.size w w1 := (by repeat (first | exact Below.refl _ _ | assumption | refine below_drewN ?_ _ | refine Below.setCell ?_ (by first | (simp; done) | (simp; omega)) _ | refine Below.alloc ?_ (by first | (simp; done) | (simp; omega) | omega) _ | refine Below.drew ?_ | refine Below.trans ?_ (Below.mono (by assumption) (by first | (simp; done) | (simp; omega) | omega))))
  have BE1 := Lib.hid be1
  clear hb1 be1
  go_wp2_with fail
  refine (instant_calls o p cs cap d 0 false w1 (HC.out.below BE1.out)).mono ?_
  rintro e w3 ⟨rfl, hb3⟩
  rw [HI.out]
  unfold R2
  have hz3 := hb3.size
  have d1 : w3.cell? ⟨w.heap.size, 0, none⟩ = some (.int .i64 o) := cell_keep hb3 c1
  have d2 : w3.cell? ⟨w.heap.size, 1, none⟩ = some (.slice p cs.length cap) := cell_keep hb3 c2
  have l1 : w.heap.size < w3.heap.size := by omega
  have BE3 := Lib.hid (BE1.out.trans (hb3.mono BE1.out.size))
  clear hb3 c1 c2
  go_wp2_with fail
  refine (instant_calls o p cs cap (d + 1) 0 false w3 (HC.out.below BE3.out)).mono ?_
  rintro e w5 ⟨rfl, hb5⟩
  rw [HJ.out]
  unfold R2
  have BE5 := Lib.hid (BE3.out.trans (hb5.mono BE3.out.size))
  clear hb5
  have hbe : (e2 == 0) = false := by simpa using he
  clear he
  go_wp2_with fail
  go_ret3
  exact ⟨rfl, BE5.out⟩
set_option maxHeartbeats 800000 in
theorem span_in (o : Int) (p : Option Addr) (cs : List (Int × Int)) (cap : Nat) (d : Int) (w : World) (hch : Chg w p cs) (h : Zn.Ok o cs) (hd : 0 ≤ d ∧ d ≤ 73047) (x y : Int) (hi : Zn.instantS o cs d 0 false = (x, 0)) (hj : Zn.instantS o cs (d + 1) 0 false = (y, 0)) :
    Calls Try.prog 15 #[.agg #[.int .i64 o, .slice p cs.length cap], .int .i64 d] w fun e w' => e = .returned (R3 (x, y, 0)) ∧ Below w.heap.size w w' := by
  have HC := Lib.hid hch
  obtain ⟨hd0, hd1⟩ := hd
  have wd : wrap64 (d + 1) = d + 1 := by unfold wrap64; omega
  have hd2 : ¬ 73048 ≤ d := by omega
  have H := Lib.hid h
  have HI := Lib.hid hi
  have HJ := Lib.hid hj
  clear hch h hi hj
  go_enter Try.func15, Try.ntmps15
  go_wp2_with fail
  refine (valid_yes (HC.out.below (by repeat (first | exact Below.refl _ _ | assumption | refine below_drewN ?_ _ | refine Below.setCell ?_ (by first | (simp; done) | (simp; omega)) _ | refine Below.alloc ?_ (by first | (simp; done) | (simp; omega) | omega) _ | refine Below.drew ?_ | refine Below.trans ?_ (Below.mono (by assumption) (by first | (simp; done) | (simp; omega) | omega))))) H.out).mono ?_
  rintro e w1 ⟨rfl, hb1⟩
  have hz1 := hb1.size
  (try simp at hz1)
  have c1 : w1.cell? ⟨w.heap.size, 0, none⟩ = some (.int .i64 o) := cell_keep hb1 (by go_simp)
  have c2 : w1.cell? ⟨w.heap.size, 1, none⟩ = some (.slice p cs.length cap) := cell_keep hb1 (by go_simp)
  have be1 : Below w.heap.size w w1 := (by repeat (first | exact Below.refl _ _ | assumption | refine below_drewN ?_ _ | refine Below.setCell ?_ (by first | (simp; done) | (simp; omega)) _ | refine Below.alloc ?_ (by first | (simp; done) | (simp; omega) | omega) _ | refine Below.drew ?_ | refine Below.trans ?_ (Below.mono (by assumption) (by first | (simp; done) | (simp; omega) | omega))))
  have BE1 := Lib.hid be1
  clear hb1 be1
  go_wp2_with fail
  refine (instant_calls o p cs cap d 0 false w1 (HC.out.below BE1.out)).mono ?_
  rintro e w3 ⟨rfl, hb3⟩
  rw [HI.out]
  unfold R2
  have hz3 := hb3.size
  have d1 : w3.cell? ⟨w.heap.size, 0, none⟩ = some (.int .i64 o) := cell_keep hb3 c1
  have d2 : w3.cell? ⟨w.heap.size, 1, none⟩ = some (.slice p cs.length cap) := cell_keep hb3 c2
  have l1 : w.heap.size < w3.heap.size := by omega
  have BE3 := Lib.hid (BE1.out.trans (hb3.mono BE1.out.size))
  clear hb3 c1 c2
  go_wp2_with fail
  refine (instant_calls o p cs cap (d + 1) 0 false w3 (HC.out.below BE3.out)).mono ?_
  rintro e w5 ⟨rfl, hb5⟩
  rw [HJ.out]
  unfold R2
  have BE5 := Lib.hid (BE3.out.trans (hb5.mono BE3.out.size))
  clear hb5
  go_wp2_with fail
  go_ret3
  exact ⟨rfl, BE5.out⟩
theorem span_calls (o : Int) (p : Option Addr) (cs : List (Int × Int)) (cap : Nat) (d : Int) (w : World) (hch : Chg w p cs) :
    Calls Try.prog 15 #[.agg #[.int .i64 o, .slice p cs.length cap], .int .i64 d] w fun e w' => e = .returned (R3 (Zn.spanS o cs d)) ∧ Below w.heap.size w w' := by
  by_cases h : Zn.Ok o cs
  · by_cases hd : 0 ≤ d ∧ d ≤ 73047
    · rcases hi : Zn.instantS o cs d 0 false with ⟨x, e1⟩
      rcases hj : Zn.instantS o cs (d + 1) 0 false with ⟨y, e2⟩
      unfold Zn.spanS
      rw [if_pos ⟨h, hd⟩, hi, hj]
      by_cases h1 : e1 = 0
      · subst h1
        by_cases h2 : e2 = 0
        · subst h2
          exact span_in o p cs cap d w hch h hd x y hi hj
        · rw [if_pos rfl, if_neg h2]
          exact span_e2 o p cs cap d w hch h hd x y e2 hi hj h2
      · rw [if_neg h1]
        exact span_e1 o p cs cap d w hch h hd x e1 hi h1
    · unfold Zn.spanS
      rw [if_neg (fun k => hd k.2)]
      by_cases h0 : 0 ≤ d
      · exact span_far o p cs cap d w hch h h0 (by omega)
      · exact span_neg o p cs cap d w hch h (by omega)
  · unfold Zn.spanS
    rw [if_neg (fun k => h k.1)]
    exact span_bad o p cs cap d w hch h
end Go.Proofs.Ytcacmigfpahicaa

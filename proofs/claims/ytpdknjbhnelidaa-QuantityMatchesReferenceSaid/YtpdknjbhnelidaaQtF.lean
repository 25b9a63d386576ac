/- accepts; what Sum and Basket hand on as functions. -/
import Derived.Test.YtpdknjbhnelidaaQtE
namespace Go.Proofs.Ytpdknjbhnelidaa
open Go.RowKit

/-- an amount that is not valid for a table -/
def badB (n : Nat) (a : Qn.Am) : Bool := !(decide (0 ≤ a.1 ∧ a.1 < (n : Int)) && decide (Rt.Ok a.2.1 a.2.2))
theorem badB_iff (us : List Qn.Un) (a : Qn.Am) : badB us.length a = false ↔ Qn.May us a := by
  unfold badB Qn.May Qn.In Qn.RO
  simp
noncomputable def accB (us : List Qn.Un) (l : List Qn.Am) : Bool := (Qn.validS us).2 && !(l.any (badB us.length))
theorem accB_iff (us : List Qn.Un) (l : List Qn.Am) : accB us l = true ↔ Qn.AllGood us ∧ ∀ a ∈ l, Qn.May us a := by
  unfold accB
  rw [Bool.and_eq_true, Qn.valid_iff, Bool.not_eq_true', List.any_eq_false]
  simp only [Bool.not_eq_true, badB_iff]
set_option maxRecDepth 100000 in
set_option maxHeartbeats 1600000 in
theorem bad_in (p : Option Addr) (n cap ub : Nat) (a : Qn.Am) (w : World) (hlt : ub < w.heap.size) (hc : w.cell? ⟨ub, 0, none⟩ = some (.slice p n cap)) (hx : decide (0 ≤ a.1 ∧ a.1 < (n : Int)) = false) :
    Calls Try.prog 46 #[.agg #[.int .i64 a.1, .int .i64 a.2.1, .int .i64 a.2.2], .pointer (some ⟨ub, 0, none⟩)] w fun e w' => e = .returned (.bool true) ∧ Below w.heap.size w w' := by
  have HX := Lib.hid hx
  clear hx
  go_enter Try.func46, Try.ntmps46
  go_wp2_with fail
  refine (has_any _ _ _ _ _).mono ?_
  rintro e w' ⟨rfl, rfl⟩
  rw [HX.out]
  go_wp2_with fail
  go_ret
  exact ⟨rfl, (by repeat (first | exact Below.refl _ _ | assumption | refine below_drewN ?_ _ | refine Below.setCell ?_ (by first | (simp; done) | (simp; omega)) _ | refine Below.alloc ?_ (by first | (simp; done) | (simp; omega) | omega) _ | refine Below.drew ?_ | refine Below.trans ?_ (Below.mono (by assumption) (by first | (simp; done) | (simp; omega) | omega))))⟩
set_option maxRecDepth 100000 in
set_option maxHeartbeats 1600000 in
theorem bad_true (p : Option Addr) (n cap ub : Nat) (a : Qn.Am) (w : World) (hlt : ub < w.heap.size) (hc : w.cell? ⟨ub, 0, none⟩ = some (.slice p n cap)) (hx : decide (0 ≤ a.1 ∧ a.1 < (n : Int)) = true) (hv : Rt.Ok a.2.1 a.2.2) :
    Calls Try.prog 46 #[.agg #[.int .i64 a.1, .int .i64 a.2.1, .int .i64 a.2.2], .pointer (some ⟨ub, 0, none⟩)] w fun e w' => e = .returned (.bool false) ∧ Below w.heap.size w w' := by
  have HX := Lib.hid hx
  clear hx
  have HV := Lib.hid hv
  clear hv
  go_enter Try.func46, Try.ntmps46
  go_wp2_with fail
  refine (has_any _ _ _ _ _).mono ?_
  rintro e w' ⟨rfl, rfl⟩
  rw [HX.out]
  go_wp2_with fail
  refine (valid_true _ _ _ HV.out).mono ?_
  rintro e w1 ⟨rfl, hb1⟩
  have hz1 := hb1.size
  (try simp at hz1)
  have bb1 : Below w.heap.size w w1 := (by repeat (first | exact Below.refl _ _ | assumption | refine below_drewN ?_ _ | refine Below.setCell ?_ (by first | (simp; done) | (simp; omega)) _ | refine Below.alloc ?_ (by first | (simp; done) | (simp; omega) | omega) _ | refine Below.drew ?_ | refine Below.trans ?_ (Below.mono (by assumption) (by first | (simp; done) | (simp; omega) | omega))))
  have be1 : Below w.heap.size w w1 := bb1
  have BE1 := Lib.hid be1
  clear be1 bb1 hb1
  go_wp2_with fail
  go_ret
  exact ⟨rfl, (by have q := BE1.out; repeat (first | exact q | refine Below.setCell ?_ (by first | omega | (simp; omega)) _ | refine Below.alloc ?_ (by first | omega | (simp; omega)) _ | refine below_drewN ?_ _ | refine Below.drew ?_))⟩
set_option maxRecDepth 100000 in
set_option maxHeartbeats 1600000 in
theorem bad_false (p : Option Addr) (n cap ub : Nat) (a : Qn.Am) (w : World) (hlt : ub < w.heap.size) (hc : w.cell? ⟨ub, 0, none⟩ = some (.slice p n cap)) (h64 : B64 a.2.1) (hx : decide (0 ≤ a.1 ∧ a.1 < (n : Int)) = true) (hv : ¬ Rt.Ok a.2.1 a.2.2) :
    Calls Try.prog 46 #[.agg #[.int .i64 a.1, .int .i64 a.2.1, .int .i64 a.2.2], .pointer (some ⟨ub, 0, none⟩)] w fun e w' => e = .returned (.bool true) ∧ Below w.heap.size w w' := by
  have HX := Lib.hid hx
  clear hx
  have HV := Lib.hid hv
  clear hv
  go_enter Try.func46, Try.ntmps46
  go_wp2_with fail
  refine (has_any _ _ _ _ _).mono ?_
  rintro e w' ⟨rfl, rfl⟩
  rw [HX.out]
  go_wp2_with fail
  refine (valid_false _ _ _ h64.1 h64.2 HV.out).mono ?_
  rintro e w1 ⟨rfl, hb1⟩
  have hz1 := hb1.size
  (try simp at hz1)
  have bb1 : Below w.heap.size w w1 := (by repeat (first | exact Below.refl _ _ | assumption | refine below_drewN ?_ _ | refine Below.setCell ?_ (by first | (simp; done) | (simp; omega)) _ | refine Below.alloc ?_ (by first | (simp; done) | (simp; omega) | omega) _ | refine Below.drew ?_ | refine Below.trans ?_ (Below.mono (by assumption) (by first | (simp; done) | (simp; omega) | omega))))
  have be1 : Below w.heap.size w w1 := bb1
  have BE1 := Lib.hid be1
  clear be1 bb1 hb1
  go_wp2_with fail
  go_ret
  exact ⟨rfl, (by have q := BE1.out; repeat (first | exact q | refine Below.setCell ?_ (by first | omega | (simp; omega)) _ | refine Below.alloc ?_ (by first | omega | (simp; omega)) _ | refine below_drewN ?_ _ | refine Below.drew ?_))⟩
theorem bad_calls (p : Option Addr) (n cap ub : Nat) (a : Qn.Am) (w : World) (hlt : ub < w.heap.size) (hc : w.cell? ⟨ub, 0, none⟩ = some (.slice p n cap)) (h64 : B64 a.2.1) :
    Calls Try.prog 46 #[AV a, .pointer (some ⟨ub, 0, none⟩)] w fun e w' => e = .returned (.bool (badB n a)) ∧ Below w.heap.size w w' := by
  unfold badB
  cases hx : decide (0 ≤ a.1 ∧ a.1 < (n : Int))
  · exact bad_in p n cap ub a w hlt hc hx
  by_cases hv : Rt.Ok a.2.1 a.2.2
  · rw [decide_eq_true hv]
    exact bad_true p n cap ub a w hlt hc hx hv
  · rw [decide_eq_false hv]
    exact bad_false p n cap ub a w hlt hc h64 hx hv
set_option maxRecDepth 100000 in
set_option maxHeartbeats 1600000 in
theorem acc_no (p q : Option Addr) (cap capl : Nat) (us : List Qn.Un) (l : List Qn.Am) (r1 : Int) (w : World) (ht : Tab w p us) (hcap : us.length ≤ cap) (hl : Amts w q l) (hr : Qn.validS us = (r1, false)) :
    Calls Try.prog 27 #[.slice p us.length cap, .slice q l.length capl] w fun e w' => e = .returned (.bool false) ∧ Below w.heap.size w w' := by
  have HT0 := Lib.hid ht
  have HL0 := Lib.hid hl
  have HR := Lib.hid hr
  clear ht hl hr
  go_enter Try.func27, Try.ntmps27
  go_wp2_with fail
  refine (qvalid_walk p cap us r1 false _ (HT0.out.below (by repeat (first | exact Below.refl _ _ | assumption | refine below_drewN ?_ _ | refine Below.setCell ?_ (by first | (simp; done) | (simp; omega)) _ | refine Below.alloc ?_ (by first | (simp; done) | (simp; omega) | omega) _ | refine Below.drew ?_ | refine Below.trans ?_ (Below.mono (by assumption) (by first | (simp; done) | (simp; omega) | omega))))) hcap HR.out).mono ?_
  rintro e w1 ⟨rfl, hb1⟩
  have hz1 := hb1.size
  (try simp at hz1)
  have bb1 : Below w.heap.size w w1 := (by repeat (first | exact Below.refl _ _ | assumption | refine below_drewN ?_ _ | refine Below.setCell ?_ (by first | (simp; done) | (simp; omega)) _ | refine Below.alloc ?_ (by first | (simp; done) | (simp; omega) | omega) _ | refine Below.drew ?_ | refine Below.trans ?_ (Below.mono (by assumption) (by first | (simp; done) | (simp; omega) | omega))))
  have be1 : Below w.heap.size w w1 := bb1
  have c1_t_0 : w1.cell? ⟨w.heap.size, 0, none⟩ = some (.slice p us.length cap) := cell_keep hb1 (by go_simp)
  have l1_t : w.heap.size < w1.heap.size := by omega
  have m1_t : w.heap.size < w1.heap.size + 1 := by omega
  have HT1 := Lib.hid (HT0.out.below bb1)
  have HL1 := Lib.hid (HL0.out.below bb1)
  have BE1 := Lib.hid be1
  clear be1 bb1 hb1 HT0 HL0
  simp only [RIB]
  go_wp2_with fail
  go_ret
  exact ⟨rfl, (by have q := BE1.out; repeat (first | exact q | refine Below.setCell ?_ (by first | omega | (simp; omega)) _ | refine Below.alloc ?_ (by first | omega | (simp; omega)) _ | refine below_drewN ?_ _ | refine Below.drew ?_))⟩
set_option maxRecDepth 100000 in
set_option maxHeartbeats 1600000 in
theorem acc_yes (p q : Option Addr) (cap capl : Nat) (us : List Qn.Un) (l : List Qn.Am) (r1 : Int) (w : World) (ht : Tab w p us) (hcap : us.length ≤ cap) (hl : Amts w q l) (hn : l.length ≤ 1000) (hr : Qn.validS us = (r1, true)) :
    Calls Try.prog 27 #[.slice p us.length cap, .slice q l.length capl] w fun e w' => e = .returned (.bool (!(l.any (badB us.length)))) ∧ Below w.heap.size w w' := by
  have HT0 := Lib.hid ht
  have HL0 := Lib.hid hl
  have HR := Lib.hid hr
  have HB := Lib.hid hl.1
  clear ht hl hr
  go_enter Try.func27, Try.ntmps27
  go_wp2_with fail
  refine (qvalid_walk p cap us r1 true _ (HT0.out.below (by repeat (first | exact Below.refl _ _ | assumption | refine below_drewN ?_ _ | refine Below.setCell ?_ (by first | (simp; done) | (simp; omega)) _ | refine Below.alloc ?_ (by first | (simp; done) | (simp; omega) | omega) _ | refine Below.drew ?_ | refine Below.trans ?_ (Below.mono (by assumption) (by first | (simp; done) | (simp; omega) | omega))))) hcap HR.out).mono ?_
  rintro e w1 ⟨rfl, hb1⟩
  have hz1 := hb1.size
  (try simp at hz1)
  have bb1 : Below w.heap.size w w1 := (by repeat (first | exact Below.refl _ _ | assumption | refine below_drewN ?_ _ | refine Below.setCell ?_ (by first | (simp; done) | (simp; omega)) _ | refine Below.alloc ?_ (by first | (simp; done) | (simp; omega) | omega) _ | refine Below.drew ?_ | refine Below.trans ?_ (Below.mono (by assumption) (by first | (simp; done) | (simp; omega) | omega))))
  have be1 : Below w.heap.size w w1 := bb1
  have c1_t_0 : w1.cell? ⟨w.heap.size, 0, none⟩ = some (.slice p us.length cap) := cell_keep hb1 (by go_simp)
  have l1_t : w.heap.size < w1.heap.size := by omega
  have m1_t : w.heap.size < w1.heap.size + 1 := by omega
  have HT1 := Lib.hid (HT0.out.below bb1)
  have HL1 := Lib.hid (HL0.out.below bb1)
  have BE1 := Lib.hid be1
  clear be1 bb1 hb1 HT0 HL0
  simp only [RIB]
  go_wp2_with fail
  refine (bad_any w.heap.size q capl l (badB us.length) _ hn (HL1.out.below (by repeat (first | exact Below.refl _ _ | assumption | refine below_drewN ?_ _ | refine Below.setCell ?_ (by first | (simp; done) | (simp; omega)) _ | refine Below.alloc ?_ (by first | (simp; done) | (simp; omega) | omega) _ | refine Below.drew ?_ | refine Below.trans ?_ (Below.mono (by assumption) (by first | (simp; done) | (simp; omega) | omega))))) (fun k v w' hv hb => bad_calls p us.length cap w.heap.size v w' (Nat.lt_of_lt_of_le (by assumption) hb.size) (cell_keep hb c1_t_0) (HB.out v (List.mem_of_getElem? hv)))).mono ?_
  rintro e w2 ⟨rfl, hb2⟩
  have hz2 := hb2.size
  (try simp at hz2)
  have bb2 : Below w1.heap.size w1 w2 := (by repeat (first | exact Below.refl _ _ | assumption | refine below_drewN ?_ _ | refine Below.setCell ?_ (by first | (simp; done) | (simp; omega)) _ | refine Below.alloc ?_ (by first | (simp; done) | (simp; omega) | omega) _ | refine Below.drew ?_ | refine Below.trans ?_ (Below.mono (by assumption) (by first | (simp; done) | (simp; omega) | omega))))
  have be2 : Below w.heap.size w w2 := BE1.out.trans (bb2.mono BE1.out.size)
  have c2_t_0 : w2.cell? ⟨w.heap.size, 0, none⟩ = some (.slice p us.length cap) := cell_keep bb2 c1_t_0
  have l2_t : w.heap.size < w2.heap.size := by omega
  have m2_t : w.heap.size < w2.heap.size + 1 := by omega
  have HT2 := Lib.hid (HT1.out.below bb2)
  have HL2 := Lib.hid (HL1.out.below bb2)
  have BE2 := Lib.hid be2
  clear be2 bb2 hb2 BE1 c1_t_0 l1_t m1_t HT1 HL1
  go_wp2_with fail
  go_ret
  exact ⟨rfl, (by have q := BE2.out; repeat (first | exact q | refine Below.setCell ?_ (by first | omega | (simp; omega)) _ | refine Below.alloc ?_ (by first | omega | (simp; omega)) _ | refine below_drewN ?_ _ | refine Below.drew ?_))⟩
theorem accepts_any (p q : Option Addr) (cap capl : Nat) (us : List Qn.Un) (l : List Qn.Am) (w : World) (ht : Tab w p us) (hcap : us.length ≤ cap) (hl : Amts w q l) (hn : l.length ≤ 1000) :
    Calls Try.prog 27 #[.slice p us.length cap, .slice q l.length capl] w fun e w' => e = .returned (.bool (accB us l)) ∧ Below w.heap.size w w' := by
  unfold accB
  obtain ⟨r1, r2, hr⟩ : ∃ r1 r2, Qn.validS us = (r1, r2) := ⟨_, _, rfl⟩
  rw [hr]
  cases r2
  · exact acc_no p q cap capl us l r1 w ht hcap hl hr
  · exact acc_yes p q cap capl us l r1 w ht hcap hl hn hr
set_option maxRecDepth 100000 in
set_option maxHeartbeats 1600000 in
theorem to_calls (ub : Nat) (a : Qn.Am) (to : Int) (w : World) (hlt : ub < w.heap.size) (hc : w.cell? ⟨ub, 0, none⟩ = some (.int .i64 to)) :
    Calls Try.prog 33 #[.agg #[.int .i64 a.1, .int .i64 a.2.1, .int .i64 a.2.2], .pointer (some ⟨ub, 0, none⟩)] w fun e w' => e = .returned (.int .i64 to) ∧ Below w.heap.size w w' := by
  go_enter Try.func33, Try.ntmps33
  go_wp2_with fail
  go_ret
  exact ⟨rfl, (by repeat (first | exact Below.refl _ _ | assumption | refine below_drewN ?_ _ | refine Below.setCell ?_ (by first | (simp; done) | (simp; omega)) _ | refine Below.alloc ?_ (by first | (simp; done) | (simp; omega) | omega) _ | refine Below.drew ?_ | refine Below.trans ?_ (Below.mono (by assumption) (by first | (simp; done) | (simp; omega) | omega))))⟩
set_option maxRecDepth 100000 in
set_option maxHeartbeats 1600000 in
theorem base_calls (p : Option Addr) (cap ub i : Nat) (r : Qn.R) (us : List Qn.Un) (u : Qn.Un) (w : World) (hu : us[i]? = some u) (ht : Tab w p us) (hlt : ub < w.heap.size) (hc : w.cell? ⟨ub, 0, none⟩ = some (.slice p us.length cap)) :
    Calls Try.prog 35 #[.agg #[.int .i64 (i : Int), .int .i64 r.1, .int .i64 r.2], .pointer (some ⟨ub, 0, none⟩)] w fun e w' => e = .returned (.int .i64 u.base) ∧ Below w.heap.size w w' := by
  obtain ⟨b, off, rfl, hcu, _, hbl⟩ := ht.at hu
  obtain ⟨d0, d1, d2, d3, d4⟩ := hcu
  have hil : i < us.length := (List.getElem?_eq_some_iff.1 hu).1
  clear hu ht
  go_enter Try.func35, Try.ntmps35
  go_wp2_with fail
  go_ret
  exact ⟨rfl, (by repeat (first | exact Below.refl _ _ | assumption | refine below_drewN ?_ _ | refine Below.setCell ?_ (by first | (simp; done) | (simp; omega)) _ | refine Below.alloc ?_ (by first | (simp; done) | (simp; omega) | omega) _ | refine Below.drew ?_ | refine Below.trans ?_ (Below.mono (by assumption) (by first | (simp; done) | (simp; omega) | omega))))⟩
set_option maxRecDepth 100000 in
set_option maxHeartbeats 1600000 in
theorem other_calls (p : Option Addr) (cap ub vb i j : Nat) (r : Qn.R) (us : List Qn.Un) (u v : Qn.Un) (w : World) (hu : us[i]? = some u) (hv : us[j]? = some v) (ht : Tab w p us) (hlt : ub < w.heap.size) (hc : w.cell? ⟨ub, 0, none⟩ = some (.slice p us.length cap)) (hlv : vb < w.heap.size) (hcv : w.cell? ⟨vb, 0, none⟩ = some (.int .i64 (j : Int))) :
    Calls Try.prog 30 #[.agg #[.int .i64 (i : Int), .int .i64 r.1, .int .i64 r.2], .pointer (some ⟨ub, 0, none⟩), .pointer (some ⟨vb, 0, none⟩)] w fun e w' => e = .returned (.bool (u.base != v.base)) ∧ Below w.heap.size w w' := by
  obtain ⟨b, off, rfl, hcu, _, hbl⟩ := ht.at hu
  obtain ⟨d0, d1, d2, d3, d4⟩ := hcu
  have hil : i < us.length := (List.getElem?_eq_some_iff.1 hu).1
  have hjl : j < us.length := (List.getElem?_eq_some_iff.1 hv).1
  obtain ⟨_, _, hpe, hcw, _, _⟩ := ht.at hv
  cases hpe
  obtain ⟨f0, f1, f2, f3, f4⟩ := hcw
  clear hu hv ht
  go_enter Try.func30, Try.ntmps30
  go_wp2_with fail
  go_quiet (fail)
  go_wp2_with fail
  go_ret
  exact ⟨rfl, (by repeat (first | exact Below.refl _ _ | assumption | refine below_drewN ?_ _ | refine Below.setCell ?_ (by first | (simp; done) | (simp; omega)) _ | refine Below.alloc ?_ (by first | (simp; done) | (simp; omega) | omega) _ | refine Below.drew ?_ | refine Below.trans ?_ (Below.mono (by assumption) (by first | (simp; done) | (simp; omega) | omega))))⟩
end Go.Proofs.Ytpdknjbhnelidaa

/- The reference's right: the ways out ahead of its loop. -/
import Derived.Test.YtpdknjbhnelidaaQtS
namespace Go.Proofs.Ytpdknjbhnelidaa
open Go.RowKit

set_option maxRecDepth 100000 in
set_option maxHeartbeats 1600000 in
theorem right_many (p : Option Addr) (cap : Nat) (us : List Qn.Un) (i : Nat) (u : Qn.Un) (w : World) (hu : us[i]? = some u) (ht : Tab w p us) (h : 20 ≤ i) :
    Calls Try.prog 20 #[.slice p us.length cap, .int .i64 i] w fun e w' => e = .returned (.bool (false)) ∧ Below w.heap.size w w' := by
  obtain ⟨ub, uo, rfl, ⟨c0, c1, c2, c3, c4⟩, _, hub⟩ := ht.at hu
  have hlt := (List.getElem?_eq_some_iff.1 hu).1
  have hi0 : (0 : Int) ≤ (i : Int) := by omega
  have hi1 : (i : Int) < (us.length : Int) := by omega
  clear hu
  clear ht
  go_enter Try.func20, Try.ntmps20
  go_wp2_with fail
  go_ret
  exact ⟨rfl, (by repeat (first | exact Below.refl _ _ | assumption | refine below_drewN ?_ _ | refine Below.setCell ?_ (by first | (simp; done) | (simp; omega)) _ | refine Below.alloc ?_ (by first | (simp; done) | (simp; omega) | omega) _ | refine Below.drew ?_ | refine Below.trans ?_ (Below.mono (by assumption) (by first | (simp; done) | (simp; omega) | omega))))⟩
set_option maxRecDepth 100000 in
set_option maxHeartbeats 1600000 in
theorem right_noname (p : Option Addr) (cap : Nat) (us : List Qn.Un) (i : Nat) (u : Qn.Un) (w : World) (hu : us[i]? = some u) (ht : Tab w p us) (h : i < 20) (hnb : u.nm.isEmpty = true) :
    Calls Try.prog 20 #[.slice p us.length cap, .int .i64 i] w fun e w' => e = .returned (.bool (false)) ∧ Below w.heap.size w w' := by
  obtain ⟨ub, uo, rfl, ⟨c0, c1, c2, c3, c4⟩, _, hub⟩ := ht.at hu
  have hlt := (List.getElem?_eq_some_iff.1 hu).1
  have hi0 : (0 : Int) ≤ (i : Int) := by omega
  have hi1 : (i : Int) < (us.length : Int) := by omega
  clear hu
  clear ht
  go_enter Try.func20, Try.ntmps20
  go_wp2_with fail
  go_ret
  exact ⟨rfl, (by repeat (first | exact Below.refl _ _ | assumption | refine below_drewN ?_ _ | refine Below.setCell ?_ (by first | (simp; done) | (simp; omega)) _ | refine Below.alloc ?_ (by first | (simp; done) | (simp; omega) | omega) _ | refine Below.drew ?_ | refine Below.trans ?_ (Below.mono (by assumption) (by first | (simp; done) | (simp; omega) | omega))))⟩
set_option maxRecDepth 100000 in
set_option maxHeartbeats 1600000 in
theorem right_kind (p : Option Addr) (cap : Nat) (us : List Qn.Un) (i : Nat) (u : Qn.Un) (w : World) (hu : us[i]? = some u) (ht : Tab w p us) (h : i < 20) (hnb : u.nm.isEmpty = false) (k1 : (u.kd != 1) = true) (k2 : (u.kd != 2) = true) :
    Calls Try.prog 20 #[.slice p us.length cap, .int .i64 i] w fun e w' => e = .returned (.bool (false)) ∧ Below w.heap.size w w' := by
  obtain ⟨ub, uo, rfl, ⟨c0, c1, c2, c3, c4⟩, _, hub⟩ := ht.at hu
  have hlt := (List.getElem?_eq_some_iff.1 hu).1
  have hi0 : (0 : Int) ≤ (i : Int) := by omega
  have hi1 : (i : Int) < (us.length : Int) := by omega
  clear hu
  clear ht
  go_enter Try.func20, Try.ntmps20
  go_wp2_with fail
  go_ret
  exact ⟨rfl, (by repeat (first | exact Below.refl _ _ | assumption | refine below_drewN ?_ _ | refine Below.setCell ?_ (by first | (simp; done) | (simp; omega)) _ | refine Below.alloc ?_ (by first | (simp; done) | (simp; omega) | omega) _ | refine Below.drew ?_ | refine Below.trans ?_ (Below.mono (by assumption) (by first | (simp; done) | (simp; omega) | omega))))⟩
set_option maxRecDepth 100000 in
set_option maxHeartbeats 1600000 in
theorem right_fac_g (p : Option Addr) (cap : Nat) (us : List Qn.Un) (i : Nat) (u : Qn.Un) (w : World) (hu : us[i]? = some u) (ht : Tab w p us) (h : i < 20) (hnb : u.nm.isEmpty = false) (k1 : (u.kd != 1) = false) (hv : decide (Rt.Ok u.fac.1 u.fac.2) = false) :
    Calls Try.prog 20 #[.slice p us.length cap, .int .i64 i] w fun e w' => e = .returned (.bool (false)) ∧ Below w.heap.size w w' := by
  have HV := Lib.hid hv
  clear hv
  obtain ⟨ub, uo, rfl, ⟨c0, c1, c2, c3, c4⟩, _, hub⟩ := ht.at hu
  have hlt := (List.getElem?_eq_some_iff.1 hu).1
  have hi0 : (0 : Int) ≤ (i : Int) := by omega
  have hi1 : (i : Int) < (us.length : Int) := by omega
  clear hu
  clear ht
  go_enter Try.func20, Try.ntmps20
  go_wp2_with fail
  refine (rvalid_dec u.fac.1 u.fac.2 _).mono ?_
  rintro e w1 ⟨rfl, hb1⟩
  rw [HV.out]
  have hz1 := hb1.size
  (try simp at hz1)
  have bb1 : Below w.heap.size w w1 := (by repeat (first | exact Below.refl _ _ | assumption | refine below_drewN ?_ _ | refine Below.setCell ?_ (by first | (simp; done) | (simp; omega)) _ | refine Below.alloc ?_ (by first | (simp; done) | (simp; omega) | omega) _ | refine Below.drew ?_ | refine Below.trans ?_ (Below.mono (by assumption) (by first | (simp; done) | (simp; omega) | omega))))
  have be1 : Below w.heap.size w w1 := bb1
  have c1_u_0 : w1.cell? ⟨w.heap.size, 0, none⟩ = some (.string ⟨u.nm.toArray⟩) := cell_keep hb1 (by go_simp)
  have c1_u_1 : w1.cell? ⟨w.heap.size, 1, none⟩ = some (.int .i64 u.kd) := cell_keep hb1 (by go_simp)
  have c1_u_2 : w1.cell? ⟨w.heap.size, 2, none⟩ = some (.int .i64 u.base) := cell_keep hb1 (by go_simp)
  have c1_u_3 : w1.cell? ⟨w.heap.size, 3, none⟩ = some (.int .i64 u.fac.1) := cell_keep hb1 (by go_simp)
  have c1_u_4 : w1.cell? ⟨w.heap.size, 4, none⟩ = some (.int .i64 u.fac.2) := cell_keep hb1 (by go_simp)
  have l1_u : w.heap.size < w1.heap.size := by omega
  have m1_u : w.heap.size < w1.heap.size + 1 := by omega
  have BE1 := Lib.hid be1
  clear be1 bb1 hb1
  go_wp2_with fail
  go_ret
  exact ⟨rfl, (by have q := BE1.out; repeat (first | exact q | refine Below.setCell ?_ (by first | (simp; done) | omega | (simp; omega)) _ | refine Below.alloc ?_ (by first | (simp; done) | omega | (simp; omega)) _ | refine below_drewN ?_ _ | refine Below.drew ?_))⟩
set_option maxRecDepth 100000 in
set_option maxHeartbeats 1600000 in
theorem right_fac_m (p : Option Addr) (cap : Nat) (us : List Qn.Un) (i : Nat) (u : Qn.Un) (w : World) (hu : us[i]? = some u) (ht : Tab w p us) (h : i < 20) (hnb : u.nm.isEmpty = false) (k1 : (u.kd != 1) = true) (k2 : (u.kd != 2) = false) (hv : decide (Rt.Ok u.fac.1 u.fac.2) = false) :
    Calls Try.prog 20 #[.slice p us.length cap, .int .i64 i] w fun e w' => e = .returned (.bool (false)) ∧ Below w.heap.size w w' := by
  have HV := Lib.hid hv
  clear hv
  obtain ⟨ub, uo, rfl, ⟨c0, c1, c2, c3, c4⟩, _, hub⟩ := ht.at hu
  have hlt := (List.getElem?_eq_some_iff.1 hu).1
  have hi0 : (0 : Int) ≤ (i : Int) := by omega
  have hi1 : (i : Int) < (us.length : Int) := by omega
  clear hu
  clear ht
  go_enter Try.func20, Try.ntmps20
  go_wp2_with fail
  refine (rvalid_dec u.fac.1 u.fac.2 _).mono ?_
  rintro e w1 ⟨rfl, hb1⟩
  rw [HV.out]
  have hz1 := hb1.size
  (try simp at hz1)
  have bb1 : Below w.heap.size w w1 := (by repeat (first | exact Below.refl _ _ | assumption | refine below_drewN ?_ _ | refine Below.setCell ?_ (by first | (simp; done) | (simp; omega)) _ | refine Below.alloc ?_ (by first | (simp; done) | (simp; omega) | omega) _ | refine Below.drew ?_ | refine Below.trans ?_ (Below.mono (by assumption) (by first | (simp; done) | (simp; omega) | omega))))
  have be1 : Below w.heap.size w w1 := bb1
  have c1_u_0 : w1.cell? ⟨w.heap.size, 0, none⟩ = some (.string ⟨u.nm.toArray⟩) := cell_keep hb1 (by go_simp)
  have c1_u_1 : w1.cell? ⟨w.heap.size, 1, none⟩ = some (.int .i64 u.kd) := cell_keep hb1 (by go_simp)
  have c1_u_2 : w1.cell? ⟨w.heap.size, 2, none⟩ = some (.int .i64 u.base) := cell_keep hb1 (by go_simp)
  have c1_u_3 : w1.cell? ⟨w.heap.size, 3, none⟩ = some (.int .i64 u.fac.1) := cell_keep hb1 (by go_simp)
  have c1_u_4 : w1.cell? ⟨w.heap.size, 4, none⟩ = some (.int .i64 u.fac.2) := cell_keep hb1 (by go_simp)
  have l1_u : w.heap.size < w1.heap.size := by omega
  have m1_u : w.heap.size < w1.heap.size + 1 := by omega
  have BE1 := Lib.hid be1
  clear be1 bb1 hb1
  go_wp2_with fail
  go_ret
  exact ⟨rfl, (by have q := BE1.out; repeat (first | exact q | refine Below.setCell ?_ (by first | (simp; done) | omega | (simp; omega)) _ | refine Below.alloc ?_ (by first | (simp; done) | omega | (simp; omega)) _ | refine below_drewN ?_ _ | refine Below.drew ?_))⟩
set_option maxRecDepth 100000 in
set_option maxHeartbeats 1600000 in
theorem right_num_g (p : Option Addr) (cap : Nat) (us : List Qn.Un) (i : Nat) (u : Qn.Un) (w : World) (hu : us[i]? = some u) (ht : Tab w p us) (h : i < 20) (hnb : u.nm.isEmpty = false) (k1 : (u.kd != 1) = false) (h1 : u.fac.1 < 1) (hv : decide (Rt.Ok u.fac.1 u.fac.2) = true) :
    Calls Try.prog 20 #[.slice p us.length cap, .int .i64 i] w fun e w' => e = .returned (.bool (false)) ∧ Below w.heap.size w w' := by
  have HV := Lib.hid hv
  clear hv
  obtain ⟨ub, uo, rfl, ⟨c0, c1, c2, c3, c4⟩, _, hub⟩ := ht.at hu
  have hlt := (List.getElem?_eq_some_iff.1 hu).1
  have hi0 : (0 : Int) ≤ (i : Int) := by omega
  have hi1 : (i : Int) < (us.length : Int) := by omega
  clear hu
  clear ht
  go_enter Try.func20, Try.ntmps20
  go_wp2_with fail
  refine (rvalid_dec u.fac.1 u.fac.2 _).mono ?_
  rintro e w1 ⟨rfl, hb1⟩
  rw [HV.out]
  have hz1 := hb1.size
  (try simp at hz1)
  have bb1 : Below w.heap.size w w1 := (by repeat (first | exact Below.refl _ _ | assumption | refine below_drewN ?_ _ | refine Below.setCell ?_ (by first | (simp; done) | (simp; omega)) _ | refine Below.alloc ?_ (by first | (simp; done) | (simp; omega) | omega) _ | refine Below.drew ?_ | refine Below.trans ?_ (Below.mono (by assumption) (by first | (simp; done) | (simp; omega) | omega))))
  have be1 : Below w.heap.size w w1 := bb1
  have c1_u_0 : w1.cell? ⟨w.heap.size, 0, none⟩ = some (.string ⟨u.nm.toArray⟩) := cell_keep hb1 (by go_simp)
  have c1_u_1 : w1.cell? ⟨w.heap.size, 1, none⟩ = some (.int .i64 u.kd) := cell_keep hb1 (by go_simp)
  have c1_u_2 : w1.cell? ⟨w.heap.size, 2, none⟩ = some (.int .i64 u.base) := cell_keep hb1 (by go_simp)
  have c1_u_3 : w1.cell? ⟨w.heap.size, 3, none⟩ = some (.int .i64 u.fac.1) := cell_keep hb1 (by go_simp)
  have c1_u_4 : w1.cell? ⟨w.heap.size, 4, none⟩ = some (.int .i64 u.fac.2) := cell_keep hb1 (by go_simp)
  have l1_u : w.heap.size < w1.heap.size := by omega
  have m1_u : w.heap.size < w1.heap.size + 1 := by omega
  have BE1 := Lib.hid be1
  clear be1 bb1 hb1
  go_wp2_with fail
  go_ret
  exact ⟨rfl, (by have q := BE1.out; repeat (first | exact q | refine Below.setCell ?_ (by first | (simp; done) | omega | (simp; omega)) _ | refine Below.alloc ?_ (by first | (simp; done) | omega | (simp; omega)) _ | refine below_drewN ?_ _ | refine Below.drew ?_))⟩
set_option maxRecDepth 100000 in
set_option maxHeartbeats 1600000 in
theorem right_num_m (p : Option Addr) (cap : Nat) (us : List Qn.Un) (i : Nat) (u : Qn.Un) (w : World) (hu : us[i]? = some u) (ht : Tab w p us) (h : i < 20) (hnb : u.nm.isEmpty = false) (k1 : (u.kd != 1) = true) (k2 : (u.kd != 2) = false) (h1 : u.fac.1 < 1) (hv : decide (Rt.Ok u.fac.1 u.fac.2) = true) :
    Calls Try.prog 20 #[.slice p us.length cap, .int .i64 i] w fun e w' => e = .returned (.bool (false)) ∧ Below w.heap.size w w' := by
  have HV := Lib.hid hv
  clear hv
  obtain ⟨ub, uo, rfl, ⟨c0, c1, c2, c3, c4⟩, _, hub⟩ := ht.at hu
  have hlt := (List.getElem?_eq_some_iff.1 hu).1
  have hi0 : (0 : Int) ≤ (i : Int) := by omega
  have hi1 : (i : Int) < (us.length : Int) := by omega
  clear hu
  clear ht
  go_enter Try.func20, Try.ntmps20
  go_wp2_with fail
  refine (rvalid_dec u.fac.1 u.fac.2 _).mono ?_
  rintro e w1 ⟨rfl, hb1⟩
  rw [HV.out]
  have hz1 := hb1.size
  (try simp at hz1)
  have bb1 : Below w.heap.size w w1 := (by repeat (first | exact Below.refl _ _ | assumption | refine below_drewN ?_ _ | refine Below.setCell ?_ (by first | (simp; done) | (simp; omega)) _ | refine Below.alloc ?_ (by first | (simp; done) | (simp; omega) | omega) _ | refine Below.drew ?_ | refine Below.trans ?_ (Below.mono (by assumption) (by first | (simp; done) | (simp; omega) | omega))))
  have be1 : Below w.heap.size w w1 := bb1
  have c1_u_0 : w1.cell? ⟨w.heap.size, 0, none⟩ = some (.string ⟨u.nm.toArray⟩) := cell_keep hb1 (by go_simp)
  have c1_u_1 : w1.cell? ⟨w.heap.size, 1, none⟩ = some (.int .i64 u.kd) := cell_keep hb1 (by go_simp)
  have c1_u_2 : w1.cell? ⟨w.heap.size, 2, none⟩ = some (.int .i64 u.base) := cell_keep hb1 (by go_simp)
  have c1_u_3 : w1.cell? ⟨w.heap.size, 3, none⟩ = some (.int .i64 u.fac.1) := cell_keep hb1 (by go_simp)
  have c1_u_4 : w1.cell? ⟨w.heap.size, 4, none⟩ = some (.int .i64 u.fac.2) := cell_keep hb1 (by go_simp)
  have l1_u : w.heap.size < w1.heap.size := by omega
  have m1_u : w.heap.size < w1.heap.size + 1 := by omega
  have BE1 := Lib.hid be1
  clear be1 bb1 hb1
  go_wp2_with fail
  go_ret
  exact ⟨rfl, (by have q := BE1.out; repeat (first | exact q | refine Below.setCell ?_ (by first | (simp; done) | omega | (simp; omega)) _ | refine Below.alloc ?_ (by first | (simp; done) | omega | (simp; omega)) _ | refine below_drewN ?_ _ | refine Below.drew ?_))⟩
set_option maxRecDepth 100000 in
set_option maxHeartbeats 1600000 in
theorem right_low_g (p : Option Addr) (cap : Nat) (us : List Qn.Un) (i : Nat) (u : Qn.Un) (w : World) (hu : us[i]? = some u) (ht : Tab w p us) (h : i < 20) (hnb : u.nm.isEmpty = false) (k1 : (u.kd != 1) = false) (h1 : 1 ≤ u.fac.1) (h2 : u.base < 0) (hv : decide (Rt.Ok u.fac.1 u.fac.2) = true) :
    Calls Try.prog 20 #[.slice p us.length cap, .int .i64 i] w fun e w' => e = .returned (.bool (false)) ∧ Below w.heap.size w w' := by
  have HV := Lib.hid hv
  clear hv
  obtain ⟨ub, uo, rfl, ⟨c0, c1, c2, c3, c4⟩, _, hub⟩ := ht.at hu
  have hlt := (List.getElem?_eq_some_iff.1 hu).1
  have hi0 : (0 : Int) ≤ (i : Int) := by omega
  have hi1 : (i : Int) < (us.length : Int) := by omega
  clear hu
  clear ht
  go_enter Try.func20, Try.ntmps20
  go_wp2_with fail
  refine (rvalid_dec u.fac.1 u.fac.2 _).mono ?_
  rintro e w1 ⟨rfl, hb1⟩
  rw [HV.out]
  have hz1 := hb1.size
  (try simp at hz1)
  have bb1 : Below w.heap.size w w1 := (by repeat (first | exact Below.refl _ _ | assumption | refine below_drewN ?_ _ | refine Below.setCell ?_ (by first | (simp; done) | (simp; omega)) _ | refine Below.alloc ?_ (by first | (simp; done) | (simp; omega) | omega) _ | refine Below.drew ?_ | refine Below.trans ?_ (Below.mono (by assumption) (by first | (simp; done) | (simp; omega) | omega))))
  have be1 : Below w.heap.size w w1 := bb1
  have c1_u_0 : w1.cell? ⟨w.heap.size, 0, none⟩ = some (.string ⟨u.nm.toArray⟩) := cell_keep hb1 (by go_simp)
  have c1_u_1 : w1.cell? ⟨w.heap.size, 1, none⟩ = some (.int .i64 u.kd) := cell_keep hb1 (by go_simp)
  have c1_u_2 : w1.cell? ⟨w.heap.size, 2, none⟩ = some (.int .i64 u.base) := cell_keep hb1 (by go_simp)
  have c1_u_3 : w1.cell? ⟨w.heap.size, 3, none⟩ = some (.int .i64 u.fac.1) := cell_keep hb1 (by go_simp)
  have c1_u_4 : w1.cell? ⟨w.heap.size, 4, none⟩ = some (.int .i64 u.fac.2) := cell_keep hb1 (by go_simp)
  have l1_u : w.heap.size < w1.heap.size := by omega
  have m1_u : w.heap.size < w1.heap.size + 1 := by omega
  have BE1 := Lib.hid be1
  clear be1 bb1 hb1
  go_wp2_with fail
  go_ret
  exact ⟨rfl, (by have q := BE1.out; repeat (first | exact q | refine Below.setCell ?_ (by first | (simp; done) | omega | (simp; omega)) _ | refine Below.alloc ?_ (by first | (simp; done) | omega | (simp; omega)) _ | refine below_drewN ?_ _ | refine Below.drew ?_))⟩
set_option maxRecDepth 100000 in
set_option maxHeartbeats 1600000 in
theorem right_low_m (p : Option Addr) (cap : Nat) (us : List Qn.Un) (i : Nat) (u : Qn.Un) (w : World) (hu : us[i]? = some u) (ht : Tab w p us) (h : i < 20) (hnb : u.nm.isEmpty = false) (k1 : (u.kd != 1) = true) (k2 : (u.kd != 2) = false) (h1 : 1 ≤ u.fac.1) (h2 : u.base < 0) (hv : decide (Rt.Ok u.fac.1 u.fac.2) = true) :
    Calls Try.prog 20 #[.slice p us.length cap, .int .i64 i] w fun e w' => e = .returned (.bool (false)) ∧ Below w.heap.size w w' := by
  have HV := Lib.hid hv
  clear hv
  obtain ⟨ub, uo, rfl, ⟨c0, c1, c2, c3, c4⟩, _, hub⟩ := ht.at hu
  have hlt := (List.getElem?_eq_some_iff.1 hu).1
  have hi0 : (0 : Int) ≤ (i : Int) := by omega
  have hi1 : (i : Int) < (us.length : Int) := by omega
  clear hu
  clear ht
  go_enter Try.func20, Try.ntmps20
  go_wp2_with fail
  refine (rvalid_dec u.fac.1 u.fac.2 _).mono ?_
  rintro e w1 ⟨rfl, hb1⟩
  rw [HV.out]
  have hz1 := hb1.size
  (try simp at hz1)
  have bb1 : Below w.heap.size w w1 := (by repeat (first | exact Below.refl _ _ | assumption | refine below_drewN ?_ _ | refine Below.setCell ?_ (by first | (simp; done) | (simp; omega)) _ | refine Below.alloc ?_ (by first | (simp; done) | (simp; omega) | omega) _ | refine Below.drew ?_ | refine Below.trans ?_ (Below.mono (by assumption) (by first | (simp; done) | (simp; omega) | omega))))
  have be1 : Below w.heap.size w w1 := bb1
  have c1_u_0 : w1.cell? ⟨w.heap.size, 0, none⟩ = some (.string ⟨u.nm.toArray⟩) := cell_keep hb1 (by go_simp)
  have c1_u_1 : w1.cell? ⟨w.heap.size, 1, none⟩ = some (.int .i64 u.kd) := cell_keep hb1 (by go_simp)
  have c1_u_2 : w1.cell? ⟨w.heap.size, 2, none⟩ = some (.int .i64 u.base) := cell_keep hb1 (by go_simp)
  have c1_u_3 : w1.cell? ⟨w.heap.size, 3, none⟩ = some (.int .i64 u.fac.1) := cell_keep hb1 (by go_simp)
  have c1_u_4 : w1.cell? ⟨w.heap.size, 4, none⟩ = some (.int .i64 u.fac.2) := cell_keep hb1 (by go_simp)
  have l1_u : w.heap.size < w1.heap.size := by omega
  have m1_u : w.heap.size < w1.heap.size + 1 := by omega
  have BE1 := Lib.hid be1
  clear be1 bb1 hb1
  go_wp2_with fail
  go_ret
  exact ⟨rfl, (by have q := BE1.out; repeat (first | exact q | refine Below.setCell ?_ (by first | (simp; done) | omega | (simp; omega)) _ | refine Below.alloc ?_ (by first | (simp; done) | omega | (simp; omega)) _ | refine below_drewN ?_ _ | refine Below.drew ?_))⟩
set_option maxRecDepth 100000 in
set_option maxHeartbeats 1600000 in
theorem right_high_g (p : Option Addr) (cap : Nat) (us : List Qn.Un) (i : Nat) (u : Qn.Un) (w : World) (hu : us[i]? = some u) (ht : Tab w p us) (h : i < 20) (hnb : u.nm.isEmpty = false) (k1 : (u.kd != 1) = false) (h1 : 1 ≤ u.fac.1) (h2 : 0 ≤ u.base) (h3 : (us.length : Int) ≤ u.base) (hv : decide (Rt.Ok u.fac.1 u.fac.2) = true) :
    Calls Try.prog 20 #[.slice p us.length cap, .int .i64 i] w fun e w' => e = .returned (.bool (false)) ∧ Below w.heap.size w w' := by
  have HV := Lib.hid hv
  clear hv
  obtain ⟨ub, uo, rfl, ⟨c0, c1, c2, c3, c4⟩, _, hub⟩ := ht.at hu
  have hlt := (List.getElem?_eq_some_iff.1 hu).1
  have hi0 : (0 : Int) ≤ (i : Int) := by omega
  have hi1 : (i : Int) < (us.length : Int) := by omega
  clear hu
  clear ht
  go_enter Try.func20, Try.ntmps20
  go_wp2_with fail
  refine (rvalid_dec u.fac.1 u.fac.2 _).mono ?_
  rintro e w1 ⟨rfl, hb1⟩
  rw [HV.out]
  have hz1 := hb1.size
  (try simp at hz1)
  have bb1 : Below w.heap.size w w1 := (by repeat (first | exact Below.refl _ _ | assumption | refine below_drewN ?_ _ | refine Below.setCell ?_ (by first | (simp; done) | (simp; omega)) _ | refine Below.alloc ?_ (by first | (simp; done) | (simp; omega) | omega) _ | refine Below.drew ?_ | refine Below.trans ?_ (Below.mono (by assumption) (by first | (simp; done) | (simp; omega) | omega))))
  have be1 : Below w.heap.size w w1 := bb1
  have c1_u_0 : w1.cell? ⟨w.heap.size, 0, none⟩ = some (.string ⟨u.nm.toArray⟩) := cell_keep hb1 (by go_simp)
  have c1_u_1 : w1.cell? ⟨w.heap.size, 1, none⟩ = some (.int .i64 u.kd) := cell_keep hb1 (by go_simp)
  have c1_u_2 : w1.cell? ⟨w.heap.size, 2, none⟩ = some (.int .i64 u.base) := cell_keep hb1 (by go_simp)
  have c1_u_3 : w1.cell? ⟨w.heap.size, 3, none⟩ = some (.int .i64 u.fac.1) := cell_keep hb1 (by go_simp)
  have c1_u_4 : w1.cell? ⟨w.heap.size, 4, none⟩ = some (.int .i64 u.fac.2) := cell_keep hb1 (by go_simp)
  have l1_u : w.heap.size < w1.heap.size := by omega
  have m1_u : w.heap.size < w1.heap.size + 1 := by omega
  have BE1 := Lib.hid be1
  clear be1 bb1 hb1
  go_wp2_with fail
  go_ret
  exact ⟨rfl, (by have q := BE1.out; repeat (first | exact q | refine Below.setCell ?_ (by first | (simp; done) | omega | (simp; omega)) _ | refine Below.alloc ?_ (by first | (simp; done) | omega | (simp; omega)) _ | refine below_drewN ?_ _ | refine Below.drew ?_))⟩
set_option maxRecDepth 100000 in
set_option maxHeartbeats 1600000 in
theorem right_high_m (p : Option Addr) (cap : Nat) (us : List Qn.Un) (i : Nat) (u : Qn.Un) (w : World) (hu : us[i]? = some u) (ht : Tab w p us) (h : i < 20) (hnb : u.nm.isEmpty = false) (k1 : (u.kd != 1) = true) (k2 : (u.kd != 2) = false) (h1 : 1 ≤ u.fac.1) (h2 : 0 ≤ u.base) (h3 : (us.length : Int) ≤ u.base) (hv : decide (Rt.Ok u.fac.1 u.fac.2) = true) :
    Calls Try.prog 20 #[.slice p us.length cap, .int .i64 i] w fun e w' => e = .returned (.bool (false)) ∧ Below w.heap.size w w' := by
  have HV := Lib.hid hv
  clear hv
  obtain ⟨ub, uo, rfl, ⟨c0, c1, c2, c3, c4⟩, _, hub⟩ := ht.at hu
  have hlt := (List.getElem?_eq_some_iff.1 hu).1
  have hi0 : (0 : Int) ≤ (i : Int) := by omega
  have hi1 : (i : Int) < (us.length : Int) := by omega
  clear hu
  clear ht
  go_enter Try.func20, Try.ntmps20
  go_wp2_with fail
  refine (rvalid_dec u.fac.1 u.fac.2 _).mono ?_
  rintro e w1 ⟨rfl, hb1⟩
  rw [HV.out]
  have hz1 := hb1.size
  (try simp at hz1)
  have bb1 : Below w.heap.size w w1 := (by repeat (first | exact Below.refl _ _ | assumption | refine below_drewN ?_ _ | refine Below.setCell ?_ (by first | (simp; done) | (simp; omega)) _ | refine Below.alloc ?_ (by first | (simp; done) | (simp; omega) | omega) _ | refine Below.drew ?_ | refine Below.trans ?_ (Below.mono (by assumption) (by first | (simp; done) | (simp; omega) | omega))))
  have be1 : Below w.heap.size w w1 := bb1
  have c1_u_0 : w1.cell? ⟨w.heap.size, 0, none⟩ = some (.string ⟨u.nm.toArray⟩) := cell_keep hb1 (by go_simp)
  have c1_u_1 : w1.cell? ⟨w.heap.size, 1, none⟩ = some (.int .i64 u.kd) := cell_keep hb1 (by go_simp)
  have c1_u_2 : w1.cell? ⟨w.heap.size, 2, none⟩ = some (.int .i64 u.base) := cell_keep hb1 (by go_simp)
  have c1_u_3 : w1.cell? ⟨w.heap.size, 3, none⟩ = some (.int .i64 u.fac.1) := cell_keep hb1 (by go_simp)
  have c1_u_4 : w1.cell? ⟨w.heap.size, 4, none⟩ = some (.int .i64 u.fac.2) := cell_keep hb1 (by go_simp)
  have l1_u : w.heap.size < w1.heap.size := by omega
  have m1_u : w.heap.size < w1.heap.size + 1 := by omega
  have BE1 := Lib.hid be1
  clear be1 bb1 hb1
  go_wp2_with fail
  go_ret
  exact ⟨rfl, (by have q := BE1.out; repeat (first | exact q | refine Below.setCell ?_ (by first | (simp; done) | omega | (simp; omega)) _ | refine Below.alloc ?_ (by first | (simp; done) | omega | (simp; omega)) _ | refine below_drewN ?_ _ | refine Below.drew ?_))⟩
end Go.Proofs.Ytpdknjbhnelidaa

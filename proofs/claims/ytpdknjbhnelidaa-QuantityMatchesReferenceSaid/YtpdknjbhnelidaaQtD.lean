/- The walk of isUnit behind its first test. -/
import Derived.Test.YtpdknjbhnelidaaQtC
namespace Go.Proofs.Ytpdknjbhnelidaa
open Go.RowKit

set_option maxRecDepth 100000 in
set_option maxHeartbeats 1600000 in
theorem isu_dup_g (p : Option Addr) (cap : Nat) (us : List Qn.Un) (i : Nat) (u : Qn.Un) (w : World) (hu : us[i]? = some u) (ht : Tab w p us) (hcap : us.length ≤ cap) (h : i < 20) (hnb : (u.nm == []) = false) (hk1 : (u.kd != 1) = false) (ha : ((us.take i).any fun v => v.nm == u.nm) = true) :
    Calls Try.prog 19 #[.slice p us.length cap, .int .i64 i] w fun e w' => e = .returned (.bool false) ∧ Below w.heap.size w w' := by
  have hil : i < us.length := (List.getElem?_eq_some_iff.1 hu).1
  obtain ⟨b, off, rfl, hc, hb64, hbl⟩ := ht.at hu
  obtain ⟨c0, c1, c2, c3, c4⟩ := hc
  have hic : i ≤ cap := by omega
  have HT0 := Lib.hid ht
  clear hu ht
  have HA := Lib.hid ha
  clear ha
  go_enter Try.func19, Try.ntmps19
  go_wp2_with fail
  refine (contains_calls _ _ us i u w.heap.size _ (by omega) h (HT0.out.below (by repeat (first | exact Below.refl _ _ | assumption | refine below_drewN ?_ _ | refine Below.setCell ?_ (by first | (simp; done) | (simp; omega)) _ | refine Below.alloc ?_ (by first | (simp; done) | (simp; omega) | omega) _ | refine Below.drew ?_ | refine Below.trans ?_ (Below.mono (by assumption) (by first | (simp; done) | (simp; omega) | omega))))) (by simp) (by go_simp)).mono ?_
  rintro e w1 ⟨rfl, hb1⟩
  rw [HA.out]
  have hz1 := hb1.size
  (try simp at hz1)
  have bb1 : Below w.heap.size w w1 := (by repeat (first | exact Below.refl _ _ | assumption | refine below_drewN ?_ _ | refine Below.setCell ?_ (by first | (simp; done) | (simp; omega)) _ | refine Below.alloc ?_ (by first | (simp; done) | (simp; omega) | omega) _ | refine Below.drew ?_ | refine Below.trans ?_ (Below.mono (by assumption) (by first | (simp; done) | (simp; omega) | omega))))
  have be1 : Below w.heap.size w w1 := bb1
  have c1_u_0 : w1.cell? ⟨w.heap.size, 0, none⟩ = some (.string ⟨u.nm.toArray⟩) := cell_keep hb1 (by go_simp)
  have c1_u_1 : w1.cell? ⟨w.heap.size, 1, none⟩ = some (.int .i64 u.kd) := cell_keep hb1 (by go_simp)
  have c1_u_2 : w1.cell? ⟨w.heap.size, 2, none⟩ = some (.int .i64 u.base) := cell_keep hb1 (by go_simp)
  have c1_u_3 : w1.cell? ⟨w.heap.size, 3, none⟩ = some (.int .i64 u.fac.1) := cell_keep hb1 (by go_simp)
  have c1_u_4 : w1.cell? ⟨w.heap.size, 4, none⟩ = some (.int .i64 u.fac.2) := cell_keep hb1 (by go_simp)
  have l1_u : w.heap.size < w1.heap.size := by omega
  have m1_u : w.heap.size < w1.heap.size + 1 := by omega
  have HT1 := Lib.hid (HT0.out.below bb1)
  have BE1 := Lib.hid be1
  clear be1 bb1 hb1 HT0
  go_wp2_with fail
  go_ret
  exact ⟨rfl, (by have q := BE1.out; repeat (first | exact q | refine Below.setCell ?_ (by first | omega | (simp; omega)) _ | refine Below.alloc ?_ (by first | omega | (simp; omega)) _ | refine below_drewN ?_ _ | refine Below.drew ?_))⟩
set_option maxRecDepth 100000 in
set_option maxHeartbeats 1600000 in
theorem isu_fac_g (p : Option Addr) (cap : Nat) (us : List Qn.Un) (i : Nat) (u : Qn.Un) (w : World) (hu : us[i]? = some u) (ht : Tab w p us) (hcap : us.length ≤ cap) (h : i < 20) (hnb : (u.nm == []) = false) (hk1 : (u.kd != 1) = false) (ha : ((us.take i).any fun v => v.nm == u.nm) = false) (hv : ¬ Rt.Ok u.fac.1 u.fac.2) :
    Calls Try.prog 19 #[.slice p us.length cap, .int .i64 i] w fun e w' => e = .returned (.bool false) ∧ Below w.heap.size w w' := by
  have hil : i < us.length := (List.getElem?_eq_some_iff.1 hu).1
  obtain ⟨b, off, rfl, hc, hb64, hbl⟩ := ht.at hu
  obtain ⟨c0, c1, c2, c3, c4⟩ := hc
  have hic : i ≤ cap := by omega
  have HT0 := Lib.hid ht
  clear hu ht
  have HA := Lib.hid ha
  clear ha
  have HV := Lib.hid hv
  clear hv
  go_enter Try.func19, Try.ntmps19
  go_wp2_with fail
  refine (contains_calls _ _ us i u w.heap.size _ (by omega) h (HT0.out.below (by repeat (first | exact Below.refl _ _ | assumption | refine below_drewN ?_ _ | refine Below.setCell ?_ (by first | (simp; done) | (simp; omega)) _ | refine Below.alloc ?_ (by first | (simp; done) | (simp; omega) | omega) _ | refine Below.drew ?_ | refine Below.trans ?_ (Below.mono (by assumption) (by first | (simp; done) | (simp; omega) | omega))))) (by simp) (by go_simp)).mono ?_
  rintro e w1 ⟨rfl, hb1⟩
  rw [HA.out]
  have hz1 := hb1.size
  (try simp at hz1)
  have bb1 : Below w.heap.size w w1 := (by repeat (first | exact Below.refl _ _ | assumption | refine below_drewN ?_ _ | refine Below.setCell ?_ (by first | (simp; done) | (simp; omega)) _ | refine Below.alloc ?_ (by first | (simp; done) | (simp; omega) | omega) _ | refine Below.drew ?_ | refine Below.trans ?_ (Below.mono (by assumption) (by first | (simp; done) | (simp; omega) | omega))))
  have be1 : Below w.heap.size w w1 := bb1
  have c1_u_0 : w1.cell? ⟨w.heap.size, 0, none⟩ = some (.string ⟨u.nm.toArray⟩) := cell_keep hb1 (by go_simp)
  have c1_u_1 : w1.cell? ⟨w.heap.size, 1, none⟩ = some (.int .i64 u.kd) := cell_keep hb1 (by go_simp)
  have c1_u_2 : w1.cell? ⟨w.heap.size, 2, none⟩ = some (.int .i64 u.base) := cell_keep hb1 (by go_simp)
  have c1_u_3 : w1.cell? ⟨w.heap.size, 3, none⟩ = some (.int .i64 u.fac.1) := cell_keep hb1 (by go_simp)
  have c1_u_4 : w1.cell? ⟨w.heap.size, 4, none⟩ = some (.int .i64 u.fac.2) := cell_keep hb1 (by go_simp)
  have l1_u : w.heap.size < w1.heap.size := by omega
  have m1_u : w.heap.size < w1.heap.size + 1 := by omega
  have HT1 := Lib.hid (HT0.out.below bb1)
  have BE1 := Lib.hid be1
  clear be1 bb1 hb1 HT0
  go_wp2_with fail
  refine (valid_false _ _ _ hb64.1 hb64.2 HV.out).mono ?_
  rintro e w2 ⟨rfl, hb2⟩
  have hz2 := hb2.size
  (try simp at hz2)
  have bb2 : Below w1.heap.size w1 w2 := (by repeat (first | exact Below.refl _ _ | assumption | refine below_drewN ?_ _ | refine Below.setCell ?_ (by first | (simp; done) | (simp; omega)) _ | refine Below.alloc ?_ (by first | (simp; done) | (simp; omega) | omega) _ | refine Below.drew ?_ | refine Below.trans ?_ (Below.mono (by assumption) (by first | (simp; done) | (simp; omega) | omega))))
  have be2 : Below w.heap.size w w2 := BE1.out.trans (bb2.mono BE1.out.size)
  have c2_u_0 : w2.cell? ⟨w.heap.size, 0, none⟩ = some (.string ⟨u.nm.toArray⟩) := cell_keep bb2 c1_u_0
  have c2_u_1 : w2.cell? ⟨w.heap.size, 1, none⟩ = some (.int .i64 u.kd) := cell_keep bb2 c1_u_1
  have c2_u_2 : w2.cell? ⟨w.heap.size, 2, none⟩ = some (.int .i64 u.base) := cell_keep bb2 c1_u_2
  have c2_u_3 : w2.cell? ⟨w.heap.size, 3, none⟩ = some (.int .i64 u.fac.1) := cell_keep bb2 c1_u_3
  have c2_u_4 : w2.cell? ⟨w.heap.size, 4, none⟩ = some (.int .i64 u.fac.2) := cell_keep bb2 c1_u_4
  have l2_u : w.heap.size < w2.heap.size := by omega
  have m2_u : w.heap.size < w2.heap.size + 1 := by omega
  have HT2 := Lib.hid (HT1.out.below bb2)
  have BE2 := Lib.hid be2
  clear be2 bb2 hb2 BE1 c1_u_0 c1_u_1 c1_u_2 c1_u_3 c1_u_4 l1_u m1_u HT1
  go_wp2_with fail
  go_ret
  exact ⟨rfl, (by have q := BE2.out; repeat (first | exact q | refine Below.setCell ?_ (by first | omega | (simp; omega)) _ | refine Below.alloc ?_ (by first | omega | (simp; omega)) _ | refine below_drewN ?_ _ | refine Below.drew ?_))⟩
set_option maxRecDepth 100000 in
set_option maxHeartbeats 1600000 in
theorem isu_num_g (p : Option Addr) (cap : Nat) (us : List Qn.Un) (i : Nat) (u : Qn.Un) (w : World) (hu : us[i]? = some u) (ht : Tab w p us) (hcap : us.length ≤ cap) (h : i < 20) (hnb : (u.nm == []) = false) (hk1 : (u.kd != 1) = false) (ha : ((us.take i).any fun v => v.nm == u.nm) = false) (hv : Rt.Ok u.fac.1 u.fac.2) (hp : u.fac.1 ≤ 0) :
    Calls Try.prog 19 #[.slice p us.length cap, .int .i64 i] w fun e w' => e = .returned (.bool false) ∧ Below w.heap.size w w' := by
  have hil : i < us.length := (List.getElem?_eq_some_iff.1 hu).1
  obtain ⟨b, off, rfl, hc, hb64, hbl⟩ := ht.at hu
  obtain ⟨c0, c1, c2, c3, c4⟩ := hc
  have hic : i ≤ cap := by omega
  have HT0 := Lib.hid ht
  clear hu ht
  have HA := Lib.hid ha
  clear ha
  have HV := Lib.hid hv
  clear hv
  go_enter Try.func19, Try.ntmps19
  go_wp2_with fail
  refine (contains_calls _ _ us i u w.heap.size _ (by omega) h (HT0.out.below (by repeat (first | exact Below.refl _ _ | assumption | refine below_drewN ?_ _ | refine Below.setCell ?_ (by first | (simp; done) | (simp; omega)) _ | refine Below.alloc ?_ (by first | (simp; done) | (simp; omega) | omega) _ | refine Below.drew ?_ | refine Below.trans ?_ (Below.mono (by assumption) (by first | (simp; done) | (simp; omega) | omega))))) (by simp) (by go_simp)).mono ?_
  rintro e w1 ⟨rfl, hb1⟩
  rw [HA.out]
  have hz1 := hb1.size
  (try simp at hz1)
  have bb1 : Below w.heap.size w w1 := (by repeat (first | exact Below.refl _ _ | assumption | refine below_drewN ?_ _ | refine Below.setCell ?_ (by first | (simp; done) | (simp; omega)) _ | refine Below.alloc ?_ (by first | (simp; done) | (simp; omega) | omega) _ | refine Below.drew ?_ | refine Below.trans ?_ (Below.mono (by assumption) (by first | (simp; done) | (simp; omega) | omega))))
  have be1 : Below w.heap.size w w1 := bb1
  have c1_u_0 : w1.cell? ⟨w.heap.size, 0, none⟩ = some (.string ⟨u.nm.toArray⟩) := cell_keep hb1 (by go_simp)
  have c1_u_1 : w1.cell? ⟨w.heap.size, 1, none⟩ = some (.int .i64 u.kd) := cell_keep hb1 (by go_simp)
  have c1_u_2 : w1.cell? ⟨w.heap.size, 2, none⟩ = some (.int .i64 u.base) := cell_keep hb1 (by go_simp)
  have c1_u_3 : w1.cell? ⟨w.heap.size, 3, none⟩ = some (.int .i64 u.fac.1) := cell_keep hb1 (by go_simp)
  have c1_u_4 : w1.cell? ⟨w.heap.size, 4, none⟩ = some (.int .i64 u.fac.2) := cell_keep hb1 (by go_simp)
  have l1_u : w.heap.size < w1.heap.size := by omega
  have m1_u : w.heap.size < w1.heap.size + 1 := by omega
  have HT1 := Lib.hid (HT0.out.below bb1)
  have BE1 := Lib.hid be1
  clear be1 bb1 hb1 HT0
  go_wp2_with fail
  refine (valid_true _ _ _ HV.out).mono ?_
  rintro e w2 ⟨rfl, hb2⟩
  have hz2 := hb2.size
  (try simp at hz2)
  have bb2 : Below w1.heap.size w1 w2 := (by repeat (first | exact Below.refl _ _ | assumption | refine below_drewN ?_ _ | refine Below.setCell ?_ (by first | (simp; done) | (simp; omega)) _ | refine Below.alloc ?_ (by first | (simp; done) | (simp; omega) | omega) _ | refine Below.drew ?_ | refine Below.trans ?_ (Below.mono (by assumption) (by first | (simp; done) | (simp; omega) | omega))))
  have be2 : Below w.heap.size w w2 := BE1.out.trans (bb2.mono BE1.out.size)
  have c2_u_0 : w2.cell? ⟨w.heap.size, 0, none⟩ = some (.string ⟨u.nm.toArray⟩) := cell_keep bb2 c1_u_0
  have c2_u_1 : w2.cell? ⟨w.heap.size, 1, none⟩ = some (.int .i64 u.kd) := cell_keep bb2 c1_u_1
  have c2_u_2 : w2.cell? ⟨w.heap.size, 2, none⟩ = some (.int .i64 u.base) := cell_keep bb2 c1_u_2
  have c2_u_3 : w2.cell? ⟨w.heap.size, 3, none⟩ = some (.int .i64 u.fac.1) := cell_keep bb2 c1_u_3
  have c2_u_4 : w2.cell? ⟨w.heap.size, 4, none⟩ = some (.int .i64 u.fac.2) := cell_keep bb2 c1_u_4
  have l2_u : w.heap.size < w2.heap.size := by omega
  have m2_u : w.heap.size < w2.heap.size + 1 := by omega
  have HT2 := Lib.hid (HT1.out.below bb2)
  have BE2 := Lib.hid be2
  clear be2 bb2 hb2 BE1 c1_u_0 c1_u_1 c1_u_2 c1_u_3 c1_u_4 l1_u m1_u HT1
  go_wp2_with fail
  go_ret
  exact ⟨rfl, (by have q := BE2.out; repeat (first | exact q | refine Below.setCell ?_ (by first | omega | (simp; omega)) _ | refine Below.alloc ?_ (by first | omega | (simp; omega)) _ | refine below_drewN ?_ _ | refine Below.drew ?_))⟩
set_option maxRecDepth 100000 in
set_option maxHeartbeats 1600000 in
theorem isu_base_g (p : Option Addr) (cap : Nat) (us : List Qn.Un) (i : Nat) (u : Qn.Un) (w : World) (hu : us[i]? = some u) (ht : Tab w p us) (hcap : us.length ≤ cap) (h : i < 20) (hnb : (u.nm == []) = false) (hk1 : (u.kd != 1) = false) (ha : ((us.take i).any fun v => v.nm == u.nm) = false) (hv : Rt.Ok u.fac.1 u.fac.2) (hp : ¬ u.fac.1 ≤ 0) (hx : decide (0 ≤ u.base ∧ u.base < (us.length : Int)) = false) :
    Calls Try.prog 19 #[.slice p us.length cap, .int .i64 i] w fun e w' => e = .returned (.bool false) ∧ Below w.heap.size w w' := by
  have hil : i < us.length := (List.getElem?_eq_some_iff.1 hu).1
  obtain ⟨b, off, rfl, hc, hb64, hbl⟩ := ht.at hu
  obtain ⟨c0, c1, c2, c3, c4⟩ := hc
  have hic : i ≤ cap := by omega
  have HT0 := Lib.hid ht
  clear hu ht
  have HA := Lib.hid ha
  clear ha
  have HV := Lib.hid hv
  clear hv
  have HX := Lib.hid hx
  clear hx
  go_enter Try.func19, Try.ntmps19
  go_wp2_with fail
  refine (contains_calls _ _ us i u w.heap.size _ (by omega) h (HT0.out.below (by repeat (first | exact Below.refl _ _ | assumption | refine below_drewN ?_ _ | refine Below.setCell ?_ (by first | (simp; done) | (simp; omega)) _ | refine Below.alloc ?_ (by first | (simp; done) | (simp; omega) | omega) _ | refine Below.drew ?_ | refine Below.trans ?_ (Below.mono (by assumption) (by first | (simp; done) | (simp; omega) | omega))))) (by simp) (by go_simp)).mono ?_
  rintro e w1 ⟨rfl, hb1⟩
  rw [HA.out]
  have hz1 := hb1.size
  (try simp at hz1)
  have bb1 : Below w.heap.size w w1 := (by repeat (first | exact Below.refl _ _ | assumption | refine below_drewN ?_ _ | refine Below.setCell ?_ (by first | (simp; done) | (simp; omega)) _ | refine Below.alloc ?_ (by first | (simp; done) | (simp; omega) | omega) _ | refine Below.drew ?_ | refine Below.trans ?_ (Below.mono (by assumption) (by first | (simp; done) | (simp; omega) | omega))))
  have be1 : Below w.heap.size w w1 := bb1
  have c1_u_0 : w1.cell? ⟨w.heap.size, 0, none⟩ = some (.string ⟨u.nm.toArray⟩) := cell_keep hb1 (by go_simp)
  have c1_u_1 : w1.cell? ⟨w.heap.size, 1, none⟩ = some (.int .i64 u.kd) := cell_keep hb1 (by go_simp)
  have c1_u_2 : w1.cell? ⟨w.heap.size, 2, none⟩ = some (.int .i64 u.base) := cell_keep hb1 (by go_simp)
  have c1_u_3 : w1.cell? ⟨w.heap.size, 3, none⟩ = some (.int .i64 u.fac.1) := cell_keep hb1 (by go_simp)
  have c1_u_4 : w1.cell? ⟨w.heap.size, 4, none⟩ = some (.int .i64 u.fac.2) := cell_keep hb1 (by go_simp)
  have l1_u : w.heap.size < w1.heap.size := by omega
  have m1_u : w.heap.size < w1.heap.size + 1 := by omega
  have HT1 := Lib.hid (HT0.out.below bb1)
  have BE1 := Lib.hid be1
  clear be1 bb1 hb1 HT0
  go_wp2_with fail
  refine (valid_true _ _ _ HV.out).mono ?_
  rintro e w2 ⟨rfl, hb2⟩
  have hz2 := hb2.size
  (try simp at hz2)
  have bb2 : Below w1.heap.size w1 w2 := (by repeat (first | exact Below.refl _ _ | assumption | refine below_drewN ?_ _ | refine Below.setCell ?_ (by first | (simp; done) | (simp; omega)) _ | refine Below.alloc ?_ (by first | (simp; done) | (simp; omega) | omega) _ | refine Below.drew ?_ | refine Below.trans ?_ (Below.mono (by assumption) (by first | (simp; done) | (simp; omega) | omega))))
  have be2 : Below w.heap.size w w2 := BE1.out.trans (bb2.mono BE1.out.size)
  have c2_u_0 : w2.cell? ⟨w.heap.size, 0, none⟩ = some (.string ⟨u.nm.toArray⟩) := cell_keep bb2 c1_u_0
  have c2_u_1 : w2.cell? ⟨w.heap.size, 1, none⟩ = some (.int .i64 u.kd) := cell_keep bb2 c1_u_1
  have c2_u_2 : w2.cell? ⟨w.heap.size, 2, none⟩ = some (.int .i64 u.base) := cell_keep bb2 c1_u_2
  have c2_u_3 : w2.cell? ⟨w.heap.size, 3, none⟩ = some (.int .i64 u.fac.1) := cell_keep bb2 c1_u_3
  have c2_u_4 : w2.cell? ⟨w.heap.size, 4, none⟩ = some (.int .i64 u.fac.2) := cell_keep bb2 c1_u_4
  have l2_u : w.heap.size < w2.heap.size := by omega
  have m2_u : w.heap.size < w2.heap.size + 1 := by omega
  have HT2 := Lib.hid (HT1.out.below bb2)
  have BE2 := Lib.hid be2
  clear be2 bb2 hb2 BE1 c1_u_0 c1_u_1 c1_u_2 c1_u_3 c1_u_4 l1_u m1_u HT1
  go_wp2_with fail
  refine (has_any _ _ _ _ _).mono ?_
  rintro e w' ⟨rfl, rfl⟩
  rw [HX.out]
  go_wp2_with fail
  go_ret
  exact ⟨rfl, (by have q := BE2.out; repeat (first | exact q | refine Below.setCell ?_ (by first | omega | (simp; omega)) _ | refine Below.alloc ?_ (by first | omega | (simp; omega)) _ | refine below_drewN ?_ _ | refine Below.drew ?_))⟩
set_option maxRecDepth 100000 in
set_option maxHeartbeats 1600000 in
theorem isu_bkind_g (p : Option Addr) (cap : Nat) (us : List Qn.Un) (i : Nat) (u : Qn.Un) (kk : Nat) (bu : Qn.Un) (w : World) (hu : us[i]? = some u) (ht : Tab w p us) (hcap : us.length ≤ cap) (h : i < 20) (hnb : (u.nm == []) = false) (hk1 : (u.kd != 1) = false) (ha : ((us.take i).any fun v => v.nm == u.nm) = false) (hv : Rt.Ok u.fac.1 u.fac.2) (hp : ¬ u.fac.1 ≤ 0) (hx : decide (0 ≤ (kk : Int) ∧ (kk : Int) < (us.length : Int)) = true) (hq : us[kk]? = some bu) (hbk : u.base = (kk : Int)) (hd1 : (bu.kd != u.kd) = true) :
    Calls Try.prog 19 #[.slice p us.length cap, .int .i64 i] w fun e w' => e = .returned (.bool false) ∧ Below w.heap.size w w' := by
  have hil : i < us.length := (List.getElem?_eq_some_iff.1 hu).1
  obtain ⟨b, off, rfl, hc, hb64, hbl⟩ := ht.at hu
  obtain ⟨c0, c1, c2, c3, c4⟩ := hc
  have hic : i ≤ cap := by omega
  have HT0 := Lib.hid ht
  clear hu ht
  have HU := Lib.hid hq
  have hkl : kk < us.length := (List.getElem?_eq_some_iff.1 hq).1
  clear hq
  rw [hbk] at c2
  clear hbk
  have HA := Lib.hid ha
  clear ha
  have HV := Lib.hid hv
  clear hv
  have HX := Lib.hid hx
  clear hx
  go_enter Try.func19, Try.ntmps19
  go_wp2_with fail
  refine (contains_calls _ _ us i u w.heap.size _ (by omega) h (HT0.out.below (by repeat (first | exact Below.refl _ _ | assumption | refine below_drewN ?_ _ | refine Below.setCell ?_ (by first | (simp; done) | (simp; omega)) _ | refine Below.alloc ?_ (by first | (simp; done) | (simp; omega) | omega) _ | refine Below.drew ?_ | refine Below.trans ?_ (Below.mono (by assumption) (by first | (simp; done) | (simp; omega) | omega))))) (by simp) (by go_simp)).mono ?_
  rintro e w1 ⟨rfl, hb1⟩
  rw [HA.out]
  have hz1 := hb1.size
  (try simp at hz1)
  have bb1 : Below w.heap.size w w1 := (by repeat (first | exact Below.refl _ _ | assumption | refine below_drewN ?_ _ | refine Below.setCell ?_ (by first | (simp; done) | (simp; omega)) _ | refine Below.alloc ?_ (by first | (simp; done) | (simp; omega) | omega) _ | refine Below.drew ?_ | refine Below.trans ?_ (Below.mono (by assumption) (by first | (simp; done) | (simp; omega) | omega))))
  have be1 : Below w.heap.size w w1 := bb1
  have c1_u_0 : w1.cell? ⟨w.heap.size, 0, none⟩ = some (.string ⟨u.nm.toArray⟩) := cell_keep hb1 (by go_simp)
  have c1_u_1 : w1.cell? ⟨w.heap.size, 1, none⟩ = some (.int .i64 u.kd) := cell_keep hb1 (by go_simp)
  have c1_u_2 : w1.cell? ⟨w.heap.size, 2, none⟩ = some (.int .i64 (kk : Int)) := cell_keep hb1 (by go_simp)
  have c1_u_3 : w1.cell? ⟨w.heap.size, 3, none⟩ = some (.int .i64 u.fac.1) := cell_keep hb1 (by go_simp)
  have c1_u_4 : w1.cell? ⟨w.heap.size, 4, none⟩ = some (.int .i64 u.fac.2) := cell_keep hb1 (by go_simp)
  have l1_u : w.heap.size < w1.heap.size := by omega
  have m1_u : w.heap.size < w1.heap.size + 1 := by omega
  have HT1 := Lib.hid (HT0.out.below bb1)
  have BE1 := Lib.hid be1
  clear be1 bb1 hb1 HT0
  go_wp2_with fail
  refine (valid_true _ _ _ HV.out).mono ?_
  rintro e w2 ⟨rfl, hb2⟩
  have hz2 := hb2.size
  (try simp at hz2)
  have bb2 : Below w1.heap.size w1 w2 := (by repeat (first | exact Below.refl _ _ | assumption | refine below_drewN ?_ _ | refine Below.setCell ?_ (by first | (simp; done) | (simp; omega)) _ | refine Below.alloc ?_ (by first | (simp; done) | (simp; omega) | omega) _ | refine Below.drew ?_ | refine Below.trans ?_ (Below.mono (by assumption) (by first | (simp; done) | (simp; omega) | omega))))
  have be2 : Below w.heap.size w w2 := BE1.out.trans (bb2.mono BE1.out.size)
  have c2_u_0 : w2.cell? ⟨w.heap.size, 0, none⟩ = some (.string ⟨u.nm.toArray⟩) := cell_keep bb2 c1_u_0
  have c2_u_1 : w2.cell? ⟨w.heap.size, 1, none⟩ = some (.int .i64 u.kd) := cell_keep bb2 c1_u_1
  have c2_u_2 : w2.cell? ⟨w.heap.size, 2, none⟩ = some (.int .i64 (kk : Int)) := cell_keep bb2 c1_u_2
  have c2_u_3 : w2.cell? ⟨w.heap.size, 3, none⟩ = some (.int .i64 u.fac.1) := cell_keep bb2 c1_u_3
  have c2_u_4 : w2.cell? ⟨w.heap.size, 4, none⟩ = some (.int .i64 u.fac.2) := cell_keep bb2 c1_u_4
  have l2_u : w.heap.size < w2.heap.size := by omega
  have m2_u : w.heap.size < w2.heap.size + 1 := by omega
  have HT2 := Lib.hid (HT1.out.below bb2)
  have BE2 := Lib.hid be2
  clear be2 bb2 hb2 BE1 c1_u_0 c1_u_1 c1_u_2 c1_u_3 c1_u_4 l1_u m1_u HT1
  go_wp2_with fail
  refine (has_any _ _ _ _ _).mono ?_
  rintro e w' ⟨rfl, rfl⟩
  rw [HX.out]
  obtain ⟨_, _, hpe, hcb, _, _⟩ := HT2.out.at HU.out
  cases hpe
  obtain ⟨d0, d1, d2, d3, d4⟩ := hcb
  go_wp2_with fail
  go_ret
  exact ⟨rfl, (by have q := BE2.out; repeat (first | exact q | refine Below.setCell ?_ (by first | omega | (simp; omega)) _ | refine Below.alloc ?_ (by first | omega | (simp; omega)) _ | refine below_drewN ?_ _ | refine Below.drew ?_))⟩
set_option maxRecDepth 100000 in
set_option maxHeartbeats 1600000 in
theorem isu_bbase_g (p : Option Addr) (cap : Nat) (us : List Qn.Un) (i : Nat) (u : Qn.Un) (kk : Nat) (bu : Qn.Un) (w : World) (hu : us[i]? = some u) (ht : Tab w p us) (hcap : us.length ≤ cap) (h : i < 20) (hnb : (u.nm == []) = false) (hk1 : (u.kd != 1) = false) (ha : ((us.take i).any fun v => v.nm == u.nm) = false) (hv : Rt.Ok u.fac.1 u.fac.2) (hp : ¬ u.fac.1 ≤ 0) (hx : decide (0 ≤ (kk : Int) ∧ (kk : Int) < (us.length : Int)) = true) (hq : us[kk]? = some bu) (hbk : u.base = (kk : Int)) (hd1 : (bu.kd != u.kd) = false) (hd2 : (bu.base != (kk : Int)) = true) :
    Calls Try.prog 19 #[.slice p us.length cap, .int .i64 i] w fun e w' => e = .returned (.bool false) ∧ Below w.heap.size w w' := by
  have hil : i < us.length := (List.getElem?_eq_some_iff.1 hu).1
  obtain ⟨b, off, rfl, hc, hb64, hbl⟩ := ht.at hu
  obtain ⟨c0, c1, c2, c3, c4⟩ := hc
  have hic : i ≤ cap := by omega
  have HT0 := Lib.hid ht
  clear hu ht
  have HU := Lib.hid hq
  have hkl : kk < us.length := (List.getElem?_eq_some_iff.1 hq).1
  clear hq
  rw [hbk] at c2
  clear hbk
  have HA := Lib.hid ha
  clear ha
  have HV := Lib.hid hv
  clear hv
  have HX := Lib.hid hx
  clear hx
  go_enter Try.func19, Try.ntmps19
  go_wp2_with fail
  refine (contains_calls _ _ us i u w.heap.size _ (by omega) h (HT0.out.below (by repeat (first | exact Below.refl _ _ | assumption | refine below_drewN ?_ _ | refine Below.setCell ?_ (by first | (simp; done) | (simp; omega)) _ | refine Below.alloc ?_ (by first | (simp; done) | (simp; omega) | omega) _ | refine Below.drew ?_ | refine Below.trans ?_ (Below.mono (by assumption) (by first | (simp; done) | (simp; omega) | omega))))) (by simp) (by go_simp)).mono ?_
  rintro e w1 ⟨rfl, hb1⟩
  rw [HA.out]
  have hz1 := hb1.size
  (try simp at hz1)
  have bb1 : Below w.heap.size w w1 := (by repeat (first | exact Below.refl _ _ | assumption | refine below_drewN ?_ _ | refine Below.setCell ?_ (by first | (simp; done) | (simp; omega)) _ | refine Below.alloc ?_ (by first | (simp; done) | (simp; omega) | omega) _ | refine Below.drew ?_ | refine Below.trans ?_ (Below.mono (by assumption) (by first | (simp; done) | (simp; omega) | omega))))
  have be1 : Below w.heap.size w w1 := bb1
  have c1_u_0 : w1.cell? ⟨w.heap.size, 0, none⟩ = some (.string ⟨u.nm.toArray⟩) := cell_keep hb1 (by go_simp)
  have c1_u_1 : w1.cell? ⟨w.heap.size, 1, none⟩ = some (.int .i64 u.kd) := cell_keep hb1 (by go_simp)
  have c1_u_2 : w1.cell? ⟨w.heap.size, 2, none⟩ = some (.int .i64 (kk : Int)) := cell_keep hb1 (by go_simp)
  have c1_u_3 : w1.cell? ⟨w.heap.size, 3, none⟩ = some (.int .i64 u.fac.1) := cell_keep hb1 (by go_simp)
  have c1_u_4 : w1.cell? ⟨w.heap.size, 4, none⟩ = some (.int .i64 u.fac.2) := cell_keep hb1 (by go_simp)
  have l1_u : w.heap.size < w1.heap.size := by omega
  have m1_u : w.heap.size < w1.heap.size + 1 := by omega
  have HT1 := Lib.hid (HT0.out.below bb1)
  have BE1 := Lib.hid be1
  clear be1 bb1 hb1 HT0
  go_wp2_with fail
  refine (valid_true _ _ _ HV.out).mono ?_
  rintro e w2 ⟨rfl, hb2⟩
  have hz2 := hb2.size
  (try simp at hz2)
  have bb2 : Below w1.heap.size w1 w2 := (by repeat (first | exact Below.refl _ _ | assumption | refine below_drewN ?_ _ | refine Below.setCell ?_ (by first | (simp; done) | (simp; omega)) _ | refine Below.alloc ?_ (by first | (simp; done) | (simp; omega) | omega) _ | refine Below.drew ?_ | refine Below.trans ?_ (Below.mono (by assumption) (by first | (simp; done) | (simp; omega) | omega))))
  have be2 : Below w.heap.size w w2 := BE1.out.trans (bb2.mono BE1.out.size)
  have c2_u_0 : w2.cell? ⟨w.heap.size, 0, none⟩ = some (.string ⟨u.nm.toArray⟩) := cell_keep bb2 c1_u_0
  have c2_u_1 : w2.cell? ⟨w.heap.size, 1, none⟩ = some (.int .i64 u.kd) := cell_keep bb2 c1_u_1
  have c2_u_2 : w2.cell? ⟨w.heap.size, 2, none⟩ = some (.int .i64 (kk : Int)) := cell_keep bb2 c1_u_2
  have c2_u_3 : w2.cell? ⟨w.heap.size, 3, none⟩ = some (.int .i64 u.fac.1) := cell_keep bb2 c1_u_3
  have c2_u_4 : w2.cell? ⟨w.heap.size, 4, none⟩ = some (.int .i64 u.fac.2) := cell_keep bb2 c1_u_4
  have l2_u : w.heap.size < w2.heap.size := by omega
  have m2_u : w.heap.size < w2.heap.size + 1 := by omega
  have HT2 := Lib.hid (HT1.out.below bb2)
  have BE2 := Lib.hid be2
  clear be2 bb2 hb2 BE1 c1_u_0 c1_u_1 c1_u_2 c1_u_3 c1_u_4 l1_u m1_u HT1
  go_wp2_with fail
  refine (has_any _ _ _ _ _).mono ?_
  rintro e w' ⟨rfl, rfl⟩
  rw [HX.out]
  obtain ⟨_, _, hpe, hcb, _, _⟩ := HT2.out.at HU.out
  cases hpe
  obtain ⟨d0, d1, d2, d3, d4⟩ := hcb
  go_wp2_with fail
  go_ret
  exact ⟨rfl, (by have q := BE2.out; repeat (first | exact q | refine Below.setCell ?_ (by first | omega | (simp; omega)) _ | refine Below.alloc ?_ (by first | omega | (simp; omega)) _ | refine below_drewN ?_ _ | refine Below.drew ?_))⟩
set_option maxRecDepth 100000 in
set_option maxHeartbeats 1600000 in
theorem isu_other_g (p : Option Addr) (cap : Nat) (us : List Qn.Un) (i : Nat) (u : Qn.Un) (kk : Nat) (bu : Qn.Un) (w : World) (hu : us[i]? = some u) (ht : Tab w p us) (hcap : us.length ≤ cap) (h : i < 20) (hnb : (u.nm == []) = false) (hk1 : (u.kd != 1) = false) (ha : ((us.take i).any fun v => v.nm == u.nm) = false) (hv : Rt.Ok u.fac.1 u.fac.2) (hp : ¬ u.fac.1 ≤ 0) (hx : decide (0 ≤ (kk : Int) ∧ (kk : Int) < (us.length : Int)) = true) (hq : us[kk]? = some bu) (hbk : u.base = (kk : Int)) (hd1 : (bu.kd != u.kd) = false) (hd2 : (bu.base != (kk : Int)) = false) (hd3 : ((kk : Int) != (i : Int)) = true) :
    Calls Try.prog 19 #[.slice p us.length cap, .int .i64 i] w fun e w' => e = .returned (.bool true) ∧ Below w.heap.size w w' := by
  have hil : i < us.length := (List.getElem?_eq_some_iff.1 hu).1
  obtain ⟨b, off, rfl, hc, hb64, hbl⟩ := ht.at hu
  obtain ⟨c0, c1, c2, c3, c4⟩ := hc
  have hic : i ≤ cap := by omega
  have HT0 := Lib.hid ht
  clear hu ht
  have HU := Lib.hid hq
  have hkl : kk < us.length := (List.getElem?_eq_some_iff.1 hq).1
  clear hq
  rw [hbk] at c2
  clear hbk
  have HA := Lib.hid ha
  clear ha
  have HV := Lib.hid hv
  clear hv
  have HX := Lib.hid hx
  clear hx
  go_enter Try.func19, Try.ntmps19
  go_wp2_with fail
  refine (contains_calls _ _ us i u w.heap.size _ (by omega) h (HT0.out.below (by repeat (first | exact Below.refl _ _ | assumption | refine below_drewN ?_ _ | refine Below.setCell ?_ (by first | (simp; done) | (simp; omega)) _ | refine Below.alloc ?_ (by first | (simp; done) | (simp; omega) | omega) _ | refine Below.drew ?_ | refine Below.trans ?_ (Below.mono (by assumption) (by first | (simp; done) | (simp; omega) | omega))))) (by simp) (by go_simp)).mono ?_
  rintro e w1 ⟨rfl, hb1⟩
  rw [HA.out]
  have hz1 := hb1.size
  (try simp at hz1)
  have bb1 : Below w.heap.size w w1 := (by repeat (first | exact Below.refl _ _ | assumption | refine below_drewN ?_ _ | refine Below.setCell ?_ (by first | (simp; done) | (simp; omega)) _ | refine Below.alloc ?_ (by first | (simp; done) | (simp; omega) | omega) _ | refine Below.drew ?_ | refine Below.trans ?_ (Below.mono (by assumption) (by first | (simp; done) | (simp; omega) | omega))))
  have be1 : Below w.heap.size w w1 := bb1
  have c1_u_0 : w1.cell? ⟨w.heap.size, 0, none⟩ = some (.string ⟨u.nm.toArray⟩) := cell_keep hb1 (by go_simp)
  have c1_u_1 : w1.cell? ⟨w.heap.size, 1, none⟩ = some (.int .i64 u.kd) := cell_keep hb1 (by go_simp)
  have c1_u_2 : w1.cell? ⟨w.heap.size, 2, none⟩ = some (.int .i64 (kk : Int)) := cell_keep hb1 (by go_simp)
  have c1_u_3 : w1.cell? ⟨w.heap.size, 3, none⟩ = some (.int .i64 u.fac.1) := cell_keep hb1 (by go_simp)
  have c1_u_4 : w1.cell? ⟨w.heap.size, 4, none⟩ = some (.int .i64 u.fac.2) := cell_keep hb1 (by go_simp)
  have l1_u : w.heap.size < w1.heap.size := by omega
  have m1_u : w.heap.size < w1.heap.size + 1 := by omega
  have HT1 := Lib.hid (HT0.out.below bb1)
  have BE1 := Lib.hid be1
  clear be1 bb1 hb1 HT0
  go_wp2_with fail
  refine (valid_true _ _ _ HV.out).mono ?_
  rintro e w2 ⟨rfl, hb2⟩
  have hz2 := hb2.size
  (try simp at hz2)
  have bb2 : Below w1.heap.size w1 w2 := (by repeat (first | exact Below.refl _ _ | assumption | refine below_drewN ?_ _ | refine Below.setCell ?_ (by first | (simp; done) | (simp; omega)) _ | refine Below.alloc ?_ (by first | (simp; done) | (simp; omega) | omega) _ | refine Below.drew ?_ | refine Below.trans ?_ (Below.mono (by assumption) (by first | (simp; done) | (simp; omega) | omega))))
  have be2 : Below w.heap.size w w2 := BE1.out.trans (bb2.mono BE1.out.size)
  have c2_u_0 : w2.cell? ⟨w.heap.size, 0, none⟩ = some (.string ⟨u.nm.toArray⟩) := cell_keep bb2 c1_u_0
  have c2_u_1 : w2.cell? ⟨w.heap.size, 1, none⟩ = some (.int .i64 u.kd) := cell_keep bb2 c1_u_1
  have c2_u_2 : w2.cell? ⟨w.heap.size, 2, none⟩ = some (.int .i64 (kk : Int)) := cell_keep bb2 c1_u_2
  have c2_u_3 : w2.cell? ⟨w.heap.size, 3, none⟩ = some (.int .i64 u.fac.1) := cell_keep bb2 c1_u_3
  have c2_u_4 : w2.cell? ⟨w.heap.size, 4, none⟩ = some (.int .i64 u.fac.2) := cell_keep bb2 c1_u_4
  have l2_u : w.heap.size < w2.heap.size := by omega
  have m2_u : w.heap.size < w2.heap.size + 1 := by omega
  have HT2 := Lib.hid (HT1.out.below bb2)
  have BE2 := Lib.hid be2
  clear be2 bb2 hb2 BE1 c1_u_0 c1_u_1 c1_u_2 c1_u_3 c1_u_4 l1_u m1_u HT1
  go_wp2_with fail
  refine (has_any _ _ _ _ _).mono ?_
  rintro e w' ⟨rfl, rfl⟩
  rw [HX.out]
  obtain ⟨_, _, hpe, hcb, _, _⟩ := HT2.out.at HU.out
  cases hpe
  obtain ⟨d0, d1, d2, d3, d4⟩ := hcb
  go_wp2_with fail
  go_ret
  exact ⟨rfl, (by have q := BE2.out; repeat (first | exact q | refine Below.setCell ?_ (by first | omega | (simp; omega)) _ | refine Below.alloc ?_ (by first | omega | (simp; omega)) _ | refine below_drewN ?_ _ | refine Below.drew ?_))⟩
set_option maxRecDepth 100000 in
set_option maxHeartbeats 1600000 in
theorem isu_one_g (p : Option Addr) (cap : Nat) (us : List Qn.Un) (i : Nat) (u : Qn.Un) (kk : Nat) (bu : Qn.Un) (w : World) (hu : us[i]? = some u) (ht : Tab w p us) (hcap : us.length ≤ cap) (h : i < 20) (hnb : (u.nm == []) = false) (hk1 : (u.kd != 1) = false) (ha : ((us.take i).any fun v => v.nm == u.nm) = false) (hv : Rt.Ok u.fac.1 u.fac.2) (hp : ¬ u.fac.1 ≤ 0) (hx : decide (0 ≤ (kk : Int) ∧ (kk : Int) < (us.length : Int)) = true) (hq : us[kk]? = some bu) (hbk : u.base = (kk : Int)) (hd1 : (bu.kd != u.kd) = false) (hd2 : (bu.base != (kk : Int)) = false) (hd3 : ((kk : Int) != (i : Int)) = false) (hf1 : (u.fac.1 == 1) = true) (hf2 : (u.fac.2 == 1) = true) :
    Calls Try.prog 19 #[.slice p us.length cap, .int .i64 i] w fun e w' => e = .returned (.bool true) ∧ Below w.heap.size w w' := by
  have hil : i < us.length := (List.getElem?_eq_some_iff.1 hu).1
  obtain ⟨b, off, rfl, hc, hb64, hbl⟩ := ht.at hu
  obtain ⟨c0, c1, c2, c3, c4⟩ := hc
  have hic : i ≤ cap := by omega
  have HT0 := Lib.hid ht
  clear hu ht
  have HU := Lib.hid hq
  have hkl : kk < us.length := (List.getElem?_eq_some_iff.1 hq).1
  clear hq
  rw [hbk] at c2
  clear hbk
  have HA := Lib.hid ha
  clear ha
  have HV := Lib.hid hv
  clear hv
  have HX := Lib.hid hx
  clear hx
  go_enter Try.func19, Try.ntmps19
  go_wp2_with fail
  refine (contains_calls _ _ us i u w.heap.size _ (by omega) h (HT0.out.below (by repeat (first | exact Below.refl _ _ | assumption | refine below_drewN ?_ _ | refine Below.setCell ?_ (by first | (simp; done) | (simp; omega)) _ | refine Below.alloc ?_ (by first | (simp; done) | (simp; omega) | omega) _ | refine Below.drew ?_ | refine Below.trans ?_ (Below.mono (by assumption) (by first | (simp; done) | (simp; omega) | omega))))) (by simp) (by go_simp)).mono ?_
  rintro e w1 ⟨rfl, hb1⟩
  rw [HA.out]
  have hz1 := hb1.size
  (try simp at hz1)
  have bb1 : Below w.heap.size w w1 := (by repeat (first | exact Below.refl _ _ | assumption | refine below_drewN ?_ _ | refine Below.setCell ?_ (by first | (simp; done) | (simp; omega)) _ | refine Below.alloc ?_ (by first | (simp; done) | (simp; omega) | omega) _ | refine Below.drew ?_ | refine Below.trans ?_ (Below.mono (by assumption) (by first | (simp; done) | (simp; omega) | omega))))
  have be1 : Below w.heap.size w w1 := bb1
  have c1_u_0 : w1.cell? ⟨w.heap.size, 0, none⟩ = some (.string ⟨u.nm.toArray⟩) := cell_keep hb1 (by go_simp)
  have c1_u_1 : w1.cell? ⟨w.heap.size, 1, none⟩ = some (.int .i64 u.kd) := cell_keep hb1 (by go_simp)
  have c1_u_2 : w1.cell? ⟨w.heap.size, 2, none⟩ = some (.int .i64 (kk : Int)) := cell_keep hb1 (by go_simp)
  have c1_u_3 : w1.cell? ⟨w.heap.size, 3, none⟩ = some (.int .i64 u.fac.1) := cell_keep hb1 (by go_simp)
  have c1_u_4 : w1.cell? ⟨w.heap.size, 4, none⟩ = some (.int .i64 u.fac.2) := cell_keep hb1 (by go_simp)
  have l1_u : w.heap.size < w1.heap.size := by omega
  have m1_u : w.heap.size < w1.heap.size + 1 := by omega
  have HT1 := Lib.hid (HT0.out.below bb1)
  have BE1 := Lib.hid be1
  clear be1 bb1 hb1 HT0
  go_wp2_with fail
  refine (valid_true _ _ _ HV.out).mono ?_
  rintro e w2 ⟨rfl, hb2⟩
  have hz2 := hb2.size
  (try simp at hz2)
  have bb2 : Below w1.heap.size w1 w2 := (by repeat (first | exact Below.refl _ _ | assumption | refine below_drewN ?_ _ | refine Below.setCell ?_ (by first | (simp; done) | (simp; omega)) _ | refine Below.alloc ?_ (by first | (simp; done) | (simp; omega) | omega) _ | refine Below.drew ?_ | refine Below.trans ?_ (Below.mono (by assumption) (by first | (simp; done) | (simp; omega) | omega))))
  have be2 : Below w.heap.size w w2 := BE1.out.trans (bb2.mono BE1.out.size)
  have c2_u_0 : w2.cell? ⟨w.heap.size, 0, none⟩ = some (.string ⟨u.nm.toArray⟩) := cell_keep bb2 c1_u_0
  have c2_u_1 : w2.cell? ⟨w.heap.size, 1, none⟩ = some (.int .i64 u.kd) := cell_keep bb2 c1_u_1
  have c2_u_2 : w2.cell? ⟨w.heap.size, 2, none⟩ = some (.int .i64 (kk : Int)) := cell_keep bb2 c1_u_2
  have c2_u_3 : w2.cell? ⟨w.heap.size, 3, none⟩ = some (.int .i64 u.fac.1) := cell_keep bb2 c1_u_3
  have c2_u_4 : w2.cell? ⟨w.heap.size, 4, none⟩ = some (.int .i64 u.fac.2) := cell_keep bb2 c1_u_4
  have l2_u : w.heap.size < w2.heap.size := by omega
  have m2_u : w.heap.size < w2.heap.size + 1 := by omega
  have HT2 := Lib.hid (HT1.out.below bb2)
  have BE2 := Lib.hid be2
  clear be2 bb2 hb2 BE1 c1_u_0 c1_u_1 c1_u_2 c1_u_3 c1_u_4 l1_u m1_u HT1
  go_wp2_with fail
  refine (has_any _ _ _ _ _).mono ?_
  rintro e w' ⟨rfl, rfl⟩
  rw [HX.out]
  obtain ⟨_, _, hpe, hcb, _, _⟩ := HT2.out.at HU.out
  cases hpe
  obtain ⟨d0, d1, d2, d3, d4⟩ := hcb
  go_wp2_with fail
  go_ret
  exact ⟨rfl, (by have q := BE2.out; repeat (first | exact q | refine Below.setCell ?_ (by first | omega | (simp; omega)) _ | refine Below.alloc ?_ (by first | omega | (simp; omega)) _ | refine below_drewN ?_ _ | refine Below.drew ?_))⟩
set_option maxRecDepth 100000 in
set_option maxHeartbeats 1600000 in
theorem isu_odd1_g (p : Option Addr) (cap : Nat) (us : List Qn.Un) (i : Nat) (u : Qn.Un) (kk : Nat) (bu : Qn.Un) (w : World) (hu : us[i]? = some u) (ht : Tab w p us) (hcap : us.length ≤ cap) (h : i < 20) (hnb : (u.nm == []) = false) (hk1 : (u.kd != 1) = false) (ha : ((us.take i).any fun v => v.nm == u.nm) = false) (hv : Rt.Ok u.fac.1 u.fac.2) (hp : ¬ u.fac.1 ≤ 0) (hx : decide (0 ≤ (kk : Int) ∧ (kk : Int) < (us.length : Int)) = true) (hq : us[kk]? = some bu) (hbk : u.base = (kk : Int)) (hd1 : (bu.kd != u.kd) = false) (hd2 : (bu.base != (kk : Int)) = false) (hd3 : ((kk : Int) != (i : Int)) = false) (hf1 : (u.fac.1 == 1) = false) :
    Calls Try.prog 19 #[.slice p us.length cap, .int .i64 i] w fun e w' => e = .returned (.bool false) ∧ Below w.heap.size w w' := by
  have hil : i < us.length := (List.getElem?_eq_some_iff.1 hu).1
  obtain ⟨b, off, rfl, hc, hb64, hbl⟩ := ht.at hu
  obtain ⟨c0, c1, c2, c3, c4⟩ := hc
  have hic : i ≤ cap := by omega
  have HT0 := Lib.hid ht
  clear hu ht
  have HU := Lib.hid hq
  have hkl : kk < us.length := (List.getElem?_eq_some_iff.1 hq).1
  clear hq
  rw [hbk] at c2
  clear hbk
  have HA := Lib.hid ha
  clear ha
  have HV := Lib.hid hv
  clear hv
  have HX := Lib.hid hx
  clear hx
  go_enter Try.func19, Try.ntmps19
  go_wp2_with fail
  refine (contains_calls _ _ us i u w.heap.size _ (by omega) h (HT0.out.below (by repeat (first | exact Below.refl _ _ | assumption | refine below_drewN ?_ _ | refine Below.setCell ?_ (by first | (simp; done) | (simp; omega)) _ | refine Below.alloc ?_ (by first | (simp; done) | (simp; omega) | omega) _ | refine Below.drew ?_ | refine Below.trans ?_ (Below.mono (by assumption) (by first | (simp; done) | (simp; omega) | omega))))) (by simp) (by go_simp)).mono ?_
  rintro e w1 ⟨rfl, hb1⟩
  rw [HA.out]
  have hz1 := hb1.size
  (try simp at hz1)
  have bb1 : Below w.heap.size w w1 := (by repeat (first | exact Below.refl _ _ | assumption | refine below_drewN ?_ _ | refine Below.setCell ?_ (by first | (simp; done) | (simp; omega)) _ | refine Below.alloc ?_ (by first | (simp; done) | (simp; omega) | omega) _ | refine Below.drew ?_ | refine Below.trans ?_ (Below.mono (by assumption) (by first | (simp; done) | (simp; omega) | omega))))
  have be1 : Below w.heap.size w w1 := bb1
  have c1_u_0 : w1.cell? ⟨w.heap.size, 0, none⟩ = some (.string ⟨u.nm.toArray⟩) := cell_keep hb1 (by go_simp)
  have c1_u_1 : w1.cell? ⟨w.heap.size, 1, none⟩ = some (.int .i64 u.kd) := cell_keep hb1 (by go_simp)
  have c1_u_2 : w1.cell? ⟨w.heap.size, 2, none⟩ = some (.int .i64 (kk : Int)) := cell_keep hb1 (by go_simp)
  have c1_u_3 : w1.cell? ⟨w.heap.size, 3, none⟩ = some (.int .i64 u.fac.1) := cell_keep hb1 (by go_simp)
  have c1_u_4 : w1.cell? ⟨w.heap.size, 4, none⟩ = some (.int .i64 u.fac.2) := cell_keep hb1 (by go_simp)
  have l1_u : w.heap.size < w1.heap.size := by omega
  have m1_u : w.heap.size < w1.heap.size + 1 := by omega
  have HT1 := Lib.hid (HT0.out.below bb1)
  have BE1 := Lib.hid be1
  clear be1 bb1 hb1 HT0
  go_wp2_with fail
  refine (valid_true _ _ _ HV.out).mono ?_
  rintro e w2 ⟨rfl, hb2⟩
  have hz2 := hb2.size
  (try simp at hz2)
  have bb2 : Below w1.heap.size w1 w2 := (by repeat (first | exact Below.refl _ _ | assumption | refine below_drewN ?_ _ | refine Below.setCell ?_ (by first | (simp; done) | (simp; omega)) _ | refine Below.alloc ?_ (by first | (simp; done) | (simp; omega) | omega) _ | refine Below.drew ?_ | refine Below.trans ?_ (Below.mono (by assumption) (by first | (simp; done) | (simp; omega) | omega))))
  have be2 : Below w.heap.size w w2 := BE1.out.trans (bb2.mono BE1.out.size)
  have c2_u_0 : w2.cell? ⟨w.heap.size, 0, none⟩ = some (.string ⟨u.nm.toArray⟩) := cell_keep bb2 c1_u_0
  have c2_u_1 : w2.cell? ⟨w.heap.size, 1, none⟩ = some (.int .i64 u.kd) := cell_keep bb2 c1_u_1
  have c2_u_2 : w2.cell? ⟨w.heap.size, 2, none⟩ = some (.int .i64 (kk : Int)) := cell_keep bb2 c1_u_2
  have c2_u_3 : w2.cell? ⟨w.heap.size, 3, none⟩ = some (.int .i64 u.fac.1) := cell_keep bb2 c1_u_3
  have c2_u_4 : w2.cell? ⟨w.heap.size, 4, none⟩ = some (.int .i64 u.fac.2) := cell_keep bb2 c1_u_4
  have l2_u : w.heap.size < w2.heap.size := by omega
  have m2_u : w.heap.size < w2.heap.size + 1 := by omega
  have HT2 := Lib.hid (HT1.out.below bb2)
  have BE2 := Lib.hid be2
  clear be2 bb2 hb2 BE1 c1_u_0 c1_u_1 c1_u_2 c1_u_3 c1_u_4 l1_u m1_u HT1
  go_wp2_with fail
  refine (has_any _ _ _ _ _).mono ?_
  rintro e w' ⟨rfl, rfl⟩
  rw [HX.out]
  obtain ⟨_, _, hpe, hcb, _, _⟩ := HT2.out.at HU.out
  cases hpe
  obtain ⟨d0, d1, d2, d3, d4⟩ := hcb
  go_wp2_with fail
  go_ret
  exact ⟨rfl, (by have q := BE2.out; repeat (first | exact q | refine Below.setCell ?_ (by first | omega | (simp; omega)) _ | refine Below.alloc ?_ (by first | omega | (simp; omega)) _ | refine below_drewN ?_ _ | refine Below.drew ?_))⟩
set_option maxRecDepth 100000 in
set_option maxHeartbeats 1600000 in
theorem isu_odd2_g (p : Option Addr) (cap : Nat) (us : List Qn.Un) (i : Nat) (u : Qn.Un) (kk : Nat) (bu : Qn.Un) (w : World) (hu : us[i]? = some u) (ht : Tab w p us) (hcap : us.length ≤ cap) (h : i < 20) (hnb : (u.nm == []) = false) (hk1 : (u.kd != 1) = false) (ha : ((us.take i).any fun v => v.nm == u.nm) = false) (hv : Rt.Ok u.fac.1 u.fac.2) (hp : ¬ u.fac.1 ≤ 0) (hx : decide (0 ≤ (kk : Int) ∧ (kk : Int) < (us.length : Int)) = true) (hq : us[kk]? = some bu) (hbk : u.base = (kk : Int)) (hd1 : (bu.kd != u.kd) = false) (hd2 : (bu.base != (kk : Int)) = false) (hd3 : ((kk : Int) != (i : Int)) = false) (hf1 : (u.fac.1 == 1) = true) (hf2 : (u.fac.2 == 1) = false) :
    Calls Try.prog 19 #[.slice p us.length cap, .int .i64 i] w fun e w' => e = .returned (.bool false) ∧ Below w.heap.size w w' := by
  have hil : i < us.length := (List.getElem?_eq_some_iff.1 hu).1
  obtain ⟨b, off, rfl, hc, hb64, hbl⟩ := ht.at hu
  obtain ⟨c0, c1, c2, c3, c4⟩ := hc
  have hic : i ≤ cap := by omega
  have HT0 := Lib.hid ht
  clear hu ht
  have HU := Lib.hid hq
  have hkl : kk < us.length := (List.getElem?_eq_some_iff.1 hq).1
  clear hq
  rw [hbk] at c2
  clear hbk
  have HA := Lib.hid ha
  clear ha
  have HV := Lib.hid hv
  clear hv
  have HX := Lib.hid hx
  clear hx
  go_enter Try.func19, Try.ntmps19
  go_wp2_with fail
  refine (contains_calls _ _ us i u w.heap.size _ (by omega) h (HT0.out.below (by repeat (first | exact Below.refl _ _ | assumption | refine below_drewN ?_ _ | refine Below.setCell ?_ (by first | (simp; done) | (simp; omega)) _ | refine Below.alloc ?_ (by first | (simp; done) | (simp; omega) | omega) _ | refine Below.drew ?_ | refine Below.trans ?_ (Below.mono (by assumption) (by first | (simp; done) | (simp; omega) | omega))))) (by simp) (by go_simp)).mono ?_
  rintro e w1 ⟨rfl, hb1⟩
  rw [HA.out]
  have hz1 := hb1.size
  (try simp at hz1)
  have bb1 : Below w.heap.size w w1 := (by repeat (first | exact Below.refl _ _ | assumption | refine below_drewN ?_ _ | refine Below.setCell ?_ (by first | (simp; done) | (simp; omega)) _ | refine Below.alloc ?_ (by first | (simp; done) | (simp; omega) | omega) _ | refine Below.drew ?_ | refine Below.trans ?_ (Below.mono (by assumption) (by first | (simp; done) | (simp; omega) | omega))))
  have be1 : Below w.heap.size w w1 := bb1
  have c1_u_0 : w1.cell? ⟨w.heap.size, 0, none⟩ = some (.string ⟨u.nm.toArray⟩) := cell_keep hb1 (by go_simp)
  have c1_u_1 : w1.cell? ⟨w.heap.size, 1, none⟩ = some (.int .i64 u.kd) := cell_keep hb1 (by go_simp)
  have c1_u_2 : w1.cell? ⟨w.heap.size, 2, none⟩ = some (.int .i64 (kk : Int)) := cell_keep hb1 (by go_simp)
  have c1_u_3 : w1.cell? ⟨w.heap.size, 3, none⟩ = some (.int .i64 u.fac.1) := cell_keep hb1 (by go_simp)
  have c1_u_4 : w1.cell? ⟨w.heap.size, 4, none⟩ = some (.int .i64 u.fac.2) := cell_keep hb1 (by go_simp)
  have l1_u : w.heap.size < w1.heap.size := by omega
  have m1_u : w.heap.size < w1.heap.size + 1 := by omega
  have HT1 := Lib.hid (HT0.out.below bb1)
  have BE1 := Lib.hid be1
  clear be1 bb1 hb1 HT0
  go_wp2_with fail
  refine (valid_true _ _ _ HV.out).mono ?_
  rintro e w2 ⟨rfl, hb2⟩
  have hz2 := hb2.size
  (try simp at hz2)
  have bb2 : Below w1.heap.size w1 w2 := (by repeat (first | exact Below.refl _ _ | assumption | refine below_drewN ?_ _ | refine Below.setCell ?_ (by first | (simp; done) | (simp; omega)) _ | refine Below.alloc ?_ (by first | (simp; done) | (simp; omega) | omega) _ | refine Below.drew ?_ | refine Below.trans ?_ (Below.mono (by assumption) (by first | (simp; done) | (simp; omega) | omega))))
  have be2 : Below w.heap.size w w2 := BE1.out.trans (bb2.mono BE1.out.size)
  have c2_u_0 : w2.cell? ⟨w.heap.size, 0, none⟩ = some (.string ⟨u.nm.toArray⟩) := cell_keep bb2 c1_u_0
  have c2_u_1 : w2.cell? ⟨w.heap.size, 1, none⟩ = some (.int .i64 u.kd) := cell_keep bb2 c1_u_1
  have c2_u_2 : w2.cell? ⟨w.heap.size, 2, none⟩ = some (.int .i64 (kk : Int)) := cell_keep bb2 c1_u_2
  have c2_u_3 : w2.cell? ⟨w.heap.size, 3, none⟩ = some (.int .i64 u.fac.1) := cell_keep bb2 c1_u_3
  have c2_u_4 : w2.cell? ⟨w.heap.size, 4, none⟩ = some (.int .i64 u.fac.2) := cell_keep bb2 c1_u_4
  have l2_u : w.heap.size < w2.heap.size := by omega
  have m2_u : w.heap.size < w2.heap.size + 1 := by omega
  have HT2 := Lib.hid (HT1.out.below bb2)
  have BE2 := Lib.hid be2
  clear be2 bb2 hb2 BE1 c1_u_0 c1_u_1 c1_u_2 c1_u_3 c1_u_4 l1_u m1_u HT1
  go_wp2_with fail
  refine (has_any _ _ _ _ _).mono ?_
  rintro e w' ⟨rfl, rfl⟩
  rw [HX.out]
  obtain ⟨_, _, hpe, hcb, _, _⟩ := HT2.out.at HU.out
  cases hpe
  obtain ⟨d0, d1, d2, d3, d4⟩ := hcb
  go_wp2_with fail
  go_ret
  exact ⟨rfl, (by have q := BE2.out; repeat (first | exact q | refine Below.setCell ?_ (by first | omega | (simp; omega)) _ | refine Below.alloc ?_ (by first | omega | (simp; omega)) _ | refine below_drewN ?_ _ | refine Below.drew ?_))⟩
set_option maxRecDepth 100000 in
set_option maxHeartbeats 1600000 in
theorem isu_dup_m (p : Option Addr) (cap : Nat) (us : List Qn.Un) (i : Nat) (u : Qn.Un) (w : World) (hu : us[i]? = some u) (ht : Tab w p us) (hcap : us.length ≤ cap) (h : i < 20) (hnb : (u.nm == []) = false) (hk1 : (u.kd != 1) = true) (hk2 : (u.kd != 2) = false) (ha : ((us.take i).any fun v => v.nm == u.nm) = true) :
    Calls Try.prog 19 #[.slice p us.length cap, .int .i64 i] w fun e w' => e = .returned (.bool false) ∧ Below w.heap.size w w' := by
  have hil : i < us.length := (List.getElem?_eq_some_iff.1 hu).1
  obtain ⟨b, off, rfl, hc, hb64, hbl⟩ := ht.at hu
  obtain ⟨c0, c1, c2, c3, c4⟩ := hc
  have hic : i ≤ cap := by omega
  have HT0 := Lib.hid ht
  clear hu ht
  have HA := Lib.hid ha
  clear ha
  go_enter Try.func19, Try.ntmps19
  go_wp2_with fail
  refine (contains_calls _ _ us i u w.heap.size _ (by omega) h (HT0.out.below (by repeat (first | exact Below.refl _ _ | assumption | refine below_drewN ?_ _ | refine Below.setCell ?_ (by first | (simp; done) | (simp; omega)) _ | refine Below.alloc ?_ (by first | (simp; done) | (simp; omega) | omega) _ | refine Below.drew ?_ | refine Below.trans ?_ (Below.mono (by assumption) (by first | (simp; done) | (simp; omega) | omega))))) (by simp) (by go_simp)).mono ?_
  rintro e w1 ⟨rfl, hb1⟩
  rw [HA.out]
  have hz1 := hb1.size
  (try simp at hz1)
  have bb1 : Below w.heap.size w w1 := (by repeat (first | exact Below.refl _ _ | assumption | refine below_drewN ?_ _ | refine Below.setCell ?_ (by first | (simp; done) | (simp; omega)) _ | refine Below.alloc ?_ (by first | (simp; done) | (simp; omega) | omega) _ | refine Below.drew ?_ | refine Below.trans ?_ (Below.mono (by assumption) (by first | (simp; done) | (simp; omega) | omega))))
  have be1 : Below w.heap.size w w1 := bb1
  have c1_u_0 : w1.cell? ⟨w.heap.size, 0, none⟩ = some (.string ⟨u.nm.toArray⟩) := cell_keep hb1 (by go_simp)
  have c1_u_1 : w1.cell? ⟨w.heap.size, 1, none⟩ = some (.int .i64 u.kd) := cell_keep hb1 (by go_simp)
  have c1_u_2 : w1.cell? ⟨w.heap.size, 2, none⟩ = some (.int .i64 u.base) := cell_keep hb1 (by go_simp)
  have c1_u_3 : w1.cell? ⟨w.heap.size, 3, none⟩ = some (.int .i64 u.fac.1) := cell_keep hb1 (by go_simp)
  have c1_u_4 : w1.cell? ⟨w.heap.size, 4, none⟩ = some (.int .i64 u.fac.2) := cell_keep hb1 (by go_simp)
  have l1_u : w.heap.size < w1.heap.size := by omega
  have m1_u : w.heap.size < w1.heap.size + 1 := by omega
  have HT1 := Lib.hid (HT0.out.below bb1)
  have BE1 := Lib.hid be1
  clear be1 bb1 hb1 HT0
  go_wp2_with fail
  go_ret
  exact ⟨rfl, (by have q := BE1.out; repeat (first | exact q | refine Below.setCell ?_ (by first | omega | (simp; omega)) _ | refine Below.alloc ?_ (by first | omega | (simp; omega)) _ | refine below_drewN ?_ _ | refine Below.drew ?_))⟩
set_option maxRecDepth 100000 in
set_option maxHeartbeats 1600000 in
theorem isu_fac_m (p : Option Addr) (cap : Nat) (us : List Qn.Un) (i : Nat) (u : Qn.Un) (w : World) (hu : us[i]? = some u) (ht : Tab w p us) (hcap : us.length ≤ cap) (h : i < 20) (hnb : (u.nm == []) = false) (hk1 : (u.kd != 1) = true) (hk2 : (u.kd != 2) = false) (ha : ((us.take i).any fun v => v.nm == u.nm) = false) (hv : ¬ Rt.Ok u.fac.1 u.fac.2) :
    Calls Try.prog 19 #[.slice p us.length cap, .int .i64 i] w fun e w' => e = .returned (.bool false) ∧ Below w.heap.size w w' := by
  have hil : i < us.length := (List.getElem?_eq_some_iff.1 hu).1
  obtain ⟨b, off, rfl, hc, hb64, hbl⟩ := ht.at hu
  obtain ⟨c0, c1, c2, c3, c4⟩ := hc
  have hic : i ≤ cap := by omega
  have HT0 := Lib.hid ht
  clear hu ht
  have HA := Lib.hid ha
  clear ha
  have HV := Lib.hid hv
  clear hv
  go_enter Try.func19, Try.ntmps19
  go_wp2_with fail
  refine (contains_calls _ _ us i u w.heap.size _ (by omega) h (HT0.out.below (by repeat (first | exact Below.refl _ _ | assumption | refine below_drewN ?_ _ | refine Below.setCell ?_ (by first | (simp; done) | (simp; omega)) _ | refine Below.alloc ?_ (by first | (simp; done) | (simp; omega) | omega) _ | refine Below.drew ?_ | refine Below.trans ?_ (Below.mono (by assumption) (by first | (simp; done) | (simp; omega) | omega))))) (by simp) (by go_simp)).mono ?_
  rintro e w1 ⟨rfl, hb1⟩
  rw [HA.out]
  have hz1 := hb1.size
  (try simp at hz1)
  have bb1 : Below w.heap.size w w1 := (by repeat (first | exact Below.refl _ _ | assumption | refine below_drewN ?_ _ | refine Below.setCell ?_ (by first | (simp; done) | (simp; omega)) _ | refine Below.alloc ?_ (by first | (simp; done) | (simp; omega) | omega) _ | refine Below.drew ?_ | refine Below.trans ?_ (Below.mono (by assumption) (by first | (simp; done) | (simp; omega) | omega))))
  have be1 : Below w.heap.size w w1 := bb1
  have c1_u_0 : w1.cell? ⟨w.heap.size, 0, none⟩ = some (.string ⟨u.nm.toArray⟩) := cell_keep hb1 (by go_simp)
  have c1_u_1 : w1.cell? ⟨w.heap.size, 1, none⟩ = some (.int .i64 u.kd) := cell_keep hb1 (by go_simp)
  have c1_u_2 : w1.cell? ⟨w.heap.size, 2, none⟩ = some (.int .i64 u.base) := cell_keep hb1 (by go_simp)
  have c1_u_3 : w1.cell? ⟨w.heap.size, 3, none⟩ = some (.int .i64 u.fac.1) := cell_keep hb1 (by go_simp)
  have c1_u_4 : w1.cell? ⟨w.heap.size, 4, none⟩ = some (.int .i64 u.fac.2) := cell_keep hb1 (by go_simp)
  have l1_u : w.heap.size < w1.heap.size := by omega
  have m1_u : w.heap.size < w1.heap.size + 1 := by omega
  have HT1 := Lib.hid (HT0.out.below bb1)
  have BE1 := Lib.hid be1
  clear be1 bb1 hb1 HT0
  go_wp2_with fail
  refine (valid_false _ _ _ hb64.1 hb64.2 HV.out).mono ?_
  rintro e w2 ⟨rfl, hb2⟩
  have hz2 := hb2.size
  (try simp at hz2)
  have bb2 : Below w1.heap.size w1 w2 := (by repeat (first | exact Below.refl _ _ | assumption | refine below_drewN ?_ _ | refine Below.setCell ?_ (by first | (simp; done) | (simp; omega)) _ | refine Below.alloc ?_ (by first | (simp; done) | (simp; omega) | omega) _ | refine Below.drew ?_ | refine Below.trans ?_ (Below.mono (by assumption) (by first | (simp; done) | (simp; omega) | omega))))
  have be2 : Below w.heap.size w w2 := BE1.out.trans (bb2.mono BE1.out.size)
  have c2_u_0 : w2.cell? ⟨w.heap.size, 0, none⟩ = some (.string ⟨u.nm.toArray⟩) := cell_keep bb2 c1_u_0
  have c2_u_1 : w2.cell? ⟨w.heap.size, 1, none⟩ = some (.int .i64 u.kd) := cell_keep bb2 c1_u_1
  have c2_u_2 : w2.cell? ⟨w.heap.size, 2, none⟩ = some (.int .i64 u.base) := cell_keep bb2 c1_u_2
  have c2_u_3 : w2.cell? ⟨w.heap.size, 3, none⟩ = some (.int .i64 u.fac.1) := cell_keep bb2 c1_u_3
  have c2_u_4 : w2.cell? ⟨w.heap.size, 4, none⟩ = some (.int .i64 u.fac.2) := cell_keep bb2 c1_u_4
  have l2_u : w.heap.size < w2.heap.size := by omega
  have m2_u : w.heap.size < w2.heap.size + 1 := by omega
  have HT2 := Lib.hid (HT1.out.below bb2)
  have BE2 := Lib.hid be2
  clear be2 bb2 hb2 BE1 c1_u_0 c1_u_1 c1_u_2 c1_u_3 c1_u_4 l1_u m1_u HT1
  go_wp2_with fail
  go_ret
  exact ⟨rfl, (by have q := BE2.out; repeat (first | exact q | refine Below.setCell ?_ (by first | omega | (simp; omega)) _ | refine Below.alloc ?_ (by first | omega | (simp; omega)) _ | refine below_drewN ?_ _ | refine Below.drew ?_))⟩
set_option maxRecDepth 100000 in
set_option maxHeartbeats 1600000 in
theorem isu_num_m (p : Option Addr) (cap : Nat) (us : List Qn.Un) (i : Nat) (u : Qn.Un) (w : World) (hu : us[i]? = some u) (ht : Tab w p us) (hcap : us.length ≤ cap) (h : i < 20) (hnb : (u.nm == []) = false) (hk1 : (u.kd != 1) = true) (hk2 : (u.kd != 2) = false) (ha : ((us.take i).any fun v => v.nm == u.nm) = false) (hv : Rt.Ok u.fac.1 u.fac.2) (hp : u.fac.1 ≤ 0) :
    Calls Try.prog 19 #[.slice p us.length cap, .int .i64 i] w fun e w' => e = .returned (.bool false) ∧ Below w.heap.size w w' := by
  have hil : i < us.length := (List.getElem?_eq_some_iff.1 hu).1
  obtain ⟨b, off, rfl, hc, hb64, hbl⟩ := ht.at hu
  obtain ⟨c0, c1, c2, c3, c4⟩ := hc
  have hic : i ≤ cap := by omega
  have HT0 := Lib.hid ht
  clear hu ht
  have HA := Lib.hid ha
  clear ha
  have HV := Lib.hid hv
  clear hv
  go_enter Try.func19, Try.ntmps19
  go_wp2_with fail
  refine (contains_calls _ _ us i u w.heap.size _ (by omega) h (HT0.out.below (by repeat (first | exact Below.refl _ _ | assumption | refine below_drewN ?_ _ | refine Below.setCell ?_ (by first | (simp; done) | (simp; omega)) _ | refine Below.alloc ?_ (by first | (simp; done) | (simp; omega) | omega) _ | refine Below.drew ?_ | refine Below.trans ?_ (Below.mono (by assumption) (by first | (simp; done) | (simp; omega) | omega))))) (by simp) (by go_simp)).mono ?_
  rintro e w1 ⟨rfl, hb1⟩
  rw [HA.out]
  have hz1 := hb1.size
  (try simp at hz1)
  have bb1 : Below w.heap.size w w1 := (by repeat (first | exact Below.refl _ _ | assumption | refine below_drewN ?_ _ | refine Below.setCell ?_ (by first | (simp; done) | (simp; omega)) _ | refine Below.alloc ?_ (by first | (simp; done) | (simp; omega) | omega) _ | refine Below.drew ?_ | refine Below.trans ?_ (Below.mono (by assumption) (by first | (simp; done) | (simp; omega) | omega))))
  have be1 : Below w.heap.size w w1 := bb1
  have c1_u_0 : w1.cell? ⟨w.heap.size, 0, none⟩ = some (.string ⟨u.nm.toArray⟩) := cell_keep hb1 (by go_simp)
  have c1_u_1 : w1.cell? ⟨w.heap.size, 1, none⟩ = some (.int .i64 u.kd) := cell_keep hb1 (by go_simp)
  have c1_u_2 : w1.cell? ⟨w.heap.size, 2, none⟩ = some (.int .i64 u.base) := cell_keep hb1 (by go_simp)
  have c1_u_3 : w1.cell? ⟨w.heap.size, 3, none⟩ = some (.int .i64 u.fac.1) := cell_keep hb1 (by go_simp)
  have c1_u_4 : w1.cell? ⟨w.heap.size, 4, none⟩ = some (.int .i64 u.fac.2) := cell_keep hb1 (by go_simp)
  have l1_u : w.heap.size < w1.heap.size := by omega
  have m1_u : w.heap.size < w1.heap.size + 1 := by omega
  have HT1 := Lib.hid (HT0.out.below bb1)
  have BE1 := Lib.hid be1
  clear be1 bb1 hb1 HT0
  go_wp2_with fail
  refine (valid_true _ _ _ HV.out).mono ?_
  rintro e w2 ⟨rfl, hb2⟩
  have hz2 := hb2.size
  (try simp at hz2)
  have bb2 : Below w1.heap.size w1 w2 := (by repeat (first | exact Below.refl _ _ | assumption | refine below_drewN ?_ _ | refine Below.setCell ?_ (by first | (simp; done) | (simp; omega)) _ | refine Below.alloc ?_ (by first | (simp; done) | (simp; omega) | omega) _ | refine Below.drew ?_ | refine Below.trans ?_ (Below.mono (by assumption) (by first | (simp; done) | (simp; omega) | omega))))
  have be2 : Below w.heap.size w w2 := BE1.out.trans (bb2.mono BE1.out.size)
  have c2_u_0 : w2.cell? ⟨w.heap.size, 0, none⟩ = some (.string ⟨u.nm.toArray⟩) := cell_keep bb2 c1_u_0
  have c2_u_1 : w2.cell? ⟨w.heap.size, 1, none⟩ = some (.int .i64 u.kd) := cell_keep bb2 c1_u_1
  have c2_u_2 : w2.cell? ⟨w.heap.size, 2, none⟩ = some (.int .i64 u.base) := cell_keep bb2 c1_u_2
  have c2_u_3 : w2.cell? ⟨w.heap.size, 3, none⟩ = some (.int .i64 u.fac.1) := cell_keep bb2 c1_u_3
  have c2_u_4 : w2.cell? ⟨w.heap.size, 4, none⟩ = some (.int .i64 u.fac.2) := cell_keep bb2 c1_u_4
  have l2_u : w.heap.size < w2.heap.size := by omega
  have m2_u : w.heap.size < w2.heap.size + 1 := by omega
  have HT2 := Lib.hid (HT1.out.below bb2)
  have BE2 := Lib.hid be2
  clear be2 bb2 hb2 BE1 c1_u_0 c1_u_1 c1_u_2 c1_u_3 c1_u_4 l1_u m1_u HT1
  go_wp2_with fail
  go_ret
  exact ⟨rfl, (by have q := BE2.out; repeat (first | exact q | refine Below.setCell ?_ (by first | omega | (simp; omega)) _ | refine Below.alloc ?_ (by first | omega | (simp; omega)) _ | refine below_drewN ?_ _ | refine Below.drew ?_))⟩
set_option maxRecDepth 100000 in
set_option maxHeartbeats 1600000 in
theorem isu_base_m (p : Option Addr) (cap : Nat) (us : List Qn.Un) (i : Nat) (u : Qn.Un) (w : World) (hu : us[i]? = some u) (ht : Tab w p us) (hcap : us.length ≤ cap) (h : i < 20) (hnb : (u.nm == []) = false) (hk1 : (u.kd != 1) = true) (hk2 : (u.kd != 2) = false) (ha : ((us.take i).any fun v => v.nm == u.nm) = false) (hv : Rt.Ok u.fac.1 u.fac.2) (hp : ¬ u.fac.1 ≤ 0) (hx : decide (0 ≤ u.base ∧ u.base < (us.length : Int)) = false) :
    Calls Try.prog 19 #[.slice p us.length cap, .int .i64 i] w fun e w' => e = .returned (.bool false) ∧ Below w.heap.size w w' := by
  have hil : i < us.length := (List.getElem?_eq_some_iff.1 hu).1
  obtain ⟨b, off, rfl, hc, hb64, hbl⟩ := ht.at hu
  obtain ⟨c0, c1, c2, c3, c4⟩ := hc
  have hic : i ≤ cap := by omega
  have HT0 := Lib.hid ht
  clear hu ht
  have HA := Lib.hid ha
  clear ha
  have HV := Lib.hid hv
  clear hv
  have HX := Lib.hid hx
  clear hx
  go_enter Try.func19, Try.ntmps19
  go_wp2_with fail
  refine (contains_calls _ _ us i u w.heap.size _ (by omega) h (HT0.out.below (by repeat (first | exact Below.refl _ _ | assumption | refine below_drewN ?_ _ | refine Below.setCell ?_ (by first | (simp; done) | (simp; omega)) _ | refine Below.alloc ?_ (by first | (simp; done) | (simp; omega) | omega) _ | refine Below.drew ?_ | refine Below.trans ?_ (Below.mono (by assumption) (by first | (simp; done) | (simp; omega) | omega))))) (by simp) (by go_simp)).mono ?_
  rintro e w1 ⟨rfl, hb1⟩
  rw [HA.out]
  have hz1 := hb1.size
  (try simp at hz1)
  have bb1 : Below w.heap.size w w1 := (by repeat (first | exact Below.refl _ _ | assumption | refine below_drewN ?_ _ | refine Below.setCell ?_ (by first | (simp; done) | (simp; omega)) _ | refine Below.alloc ?_ (by first | (simp; done) | (simp; omega) | omega) _ | refine Below.drew ?_ | refine Below.trans ?_ (Below.mono (by assumption) (by first | (simp; done) | (simp; omega) | omega))))
  have be1 : Below w.heap.size w w1 := bb1
  have c1_u_0 : w1.cell? ⟨w.heap.size, 0, none⟩ = some (.string ⟨u.nm.toArray⟩) := cell_keep hb1 (by go_simp)
  have c1_u_1 : w1.cell? ⟨w.heap.size, 1, none⟩ = some (.int .i64 u.kd) := cell_keep hb1 (by go_simp)
  have c1_u_2 : w1.cell? ⟨w.heap.size, 2, none⟩ = some (.int .i64 u.base) := cell_keep hb1 (by go_simp)
  have c1_u_3 : w1.cell? ⟨w.heap.size, 3, none⟩ = some (.int .i64 u.fac.1) := cell_keep hb1 (by go_simp)
  have c1_u_4 : w1.cell? ⟨w.heap.size, 4, none⟩ = some (.int .i64 u.fac.2) := cell_keep hb1 (by go_simp)
  have l1_u : w.heap.size < w1.heap.size := by omega
  have m1_u : w.heap.size < w1.heap.size + 1 := by omega
  have HT1 := Lib.hid (HT0.out.below bb1)
  have BE1 := Lib.hid be1
  clear be1 bb1 hb1 HT0
  go_wp2_with fail
  refine (valid_true _ _ _ HV.out).mono ?_
  rintro e w2 ⟨rfl, hb2⟩
  have hz2 := hb2.size
  (try simp at hz2)
  have bb2 : Below w1.heap.size w1 w2 := (by repeat (first | exact Below.refl _ _ | assumption | refine below_drewN ?_ _ | refine Below.setCell ?_ (by first | (simp; done) | (simp; omega)) _ | refine Below.alloc ?_ (by first | (simp; done) | (simp; omega) | omega) _ | refine Below.drew ?_ | refine Below.trans ?_ (Below.mono (by assumption) (by first | (simp; done) | (simp; omega) | omega))))
  have be2 : Below w.heap.size w w2 := BE1.out.trans (bb2.mono BE1.out.size)
  have c2_u_0 : w2.cell? ⟨w.heap.size, 0, none⟩ = some (.string ⟨u.nm.toArray⟩) := cell_keep bb2 c1_u_0
  have c2_u_1 : w2.cell? ⟨w.heap.size, 1, none⟩ = some (.int .i64 u.kd) := cell_keep bb2 c1_u_1
  have c2_u_2 : w2.cell? ⟨w.heap.size, 2, none⟩ = some (.int .i64 u.base) := cell_keep bb2 c1_u_2
  have c2_u_3 : w2.cell? ⟨w.heap.size, 3, none⟩ = some (.int .i64 u.fac.1) := cell_keep bb2 c1_u_3
  have c2_u_4 : w2.cell? ⟨w.heap.size, 4, none⟩ = some (.int .i64 u.fac.2) := cell_keep bb2 c1_u_4
  have l2_u : w.heap.size < w2.heap.size := by omega
  have m2_u : w.heap.size < w2.heap.size + 1 := by omega
  have HT2 := Lib.hid (HT1.out.below bb2)
  have BE2 := Lib.hid be2
  clear be2 bb2 hb2 BE1 c1_u_0 c1_u_1 c1_u_2 c1_u_3 c1_u_4 l1_u m1_u HT1
  go_wp2_with fail
  refine (has_any _ _ _ _ _).mono ?_
  rintro e w' ⟨rfl, rfl⟩
  rw [HX.out]
  go_wp2_with fail
  go_ret
  exact ⟨rfl, (by have q := BE2.out; repeat (first | exact q | refine Below.setCell ?_ (by first | omega | (simp; omega)) _ | refine Below.alloc ?_ (by first | omega | (simp; omega)) _ | refine below_drewN ?_ _ | refine Below.drew ?_))⟩
set_option maxRecDepth 100000 in
set_option maxHeartbeats 1600000 in
theorem isu_bkind_m (p : Option Addr) (cap : Nat) (us : List Qn.Un) (i : Nat) (u : Qn.Un) (kk : Nat) (bu : Qn.Un) (w : World) (hu : us[i]? = some u) (ht : Tab w p us) (hcap : us.length ≤ cap) (h : i < 20) (hnb : (u.nm == []) = false) (hk1 : (u.kd != 1) = true) (hk2 : (u.kd != 2) = false) (ha : ((us.take i).any fun v => v.nm == u.nm) = false) (hv : Rt.Ok u.fac.1 u.fac.2) (hp : ¬ u.fac.1 ≤ 0) (hx : decide (0 ≤ (kk : Int) ∧ (kk : Int) < (us.length : Int)) = true) (hq : us[kk]? = some bu) (hbk : u.base = (kk : Int)) (hd1 : (bu.kd != u.kd) = true) :
    Calls Try.prog 19 #[.slice p us.length cap, .int .i64 i] w fun e w' => e = .returned (.bool false) ∧ Below w.heap.size w w' := by
  have hil : i < us.length := (List.getElem?_eq_some_iff.1 hu).1
  obtain ⟨b, off, rfl, hc, hb64, hbl⟩ := ht.at hu
  obtain ⟨c0, c1, c2, c3, c4⟩ := hc
  have hic : i ≤ cap := by omega
  have HT0 := Lib.hid ht
  clear hu ht
  have HU := Lib.hid hq
  have hkl : kk < us.length := (List.getElem?_eq_some_iff.1 hq).1
  clear hq
  rw [hbk] at c2
  clear hbk
  have HA := Lib.hid ha
  clear ha
  have HV := Lib.hid hv
  clear hv
  have HX := Lib.hid hx
  clear hx
  go_enter Try.func19, Try.ntmps19
  go_wp2_with fail
  refine (contains_calls _ _ us i u w.heap.size _ (by omega) h (HT0.out.below (by repeat (first | exact Below.refl _ _ | assumption | refine below_drewN ?_ _ | refine Below.setCell ?_ (by first | (simp; done) | (simp; omega)) _ | refine Below.alloc ?_ (by first | (simp; done) | (simp; omega) | omega) _ | refine Below.drew ?_ | refine Below.trans ?_ (Below.mono (by assumption) (by first | (simp; done) | (simp; omega) | omega))))) (by simp) (by go_simp)).mono ?_
  rintro e w1 ⟨rfl, hb1⟩
  rw [HA.out]
  have hz1 := hb1.size
  (try simp at hz1)
  have bb1 : Below w.heap.size w w1 := (by repeat (first | exact Below.refl _ _ | assumption | refine below_drewN ?_ _ | refine Below.setCell ?_ (by first | (simp; done) | (simp; omega)) _ | refine Below.alloc ?_ (by first | (simp; done) | (simp; omega) | omega) _ | refine Below.drew ?_ | refine Below.trans ?_ (Below.mono (by assumption) (by first | (simp; done) | (simp; omega) | omega))))
  have be1 : Below w.heap.size w w1 := bb1
  have c1_u_0 : w1.cell? ⟨w.heap.size, 0, none⟩ = some (.string ⟨u.nm.toArray⟩) := cell_keep hb1 (by go_simp)
  have c1_u_1 : w1.cell? ⟨w.heap.size, 1, none⟩ = some (.int .i64 u.kd) := cell_keep hb1 (by go_simp)
  have c1_u_2 : w1.cell? ⟨w.heap.size, 2, none⟩ = some (.int .i64 (kk : Int)) := cell_keep hb1 (by go_simp)
  have c1_u_3 : w1.cell? ⟨w.heap.size, 3, none⟩ = some (.int .i64 u.fac.1) := cell_keep hb1 (by go_simp)
  have c1_u_4 : w1.cell? ⟨w.heap.size, 4, none⟩ = some (.int .i64 u.fac.2) := cell_keep hb1 (by go_simp)
  have l1_u : w.heap.size < w1.heap.size := by omega
  have m1_u : w.heap.size < w1.heap.size + 1 := by omega
  have HT1 := Lib.hid (HT0.out.below bb1)
  have BE1 := Lib.hid be1
  clear be1 bb1 hb1 HT0
  go_wp2_with fail
  refine (valid_true _ _ _ HV.out).mono ?_
  rintro e w2 ⟨rfl, hb2⟩
  have hz2 := hb2.size
  (try simp at hz2)
  have bb2 : Below w1.heap.size w1 w2 := (by repeat (first | exact Below.refl _ _ | assumption | refine below_drewN ?_ _ | refine Below.setCell ?_ (by first | (simp; done) | (simp; omega)) _ | refine Below.alloc ?_ (by first | (simp; done) | (simp; omega) | omega) _ | refine Below.drew ?_ | refine Below.trans ?_ (Below.mono (by assumption) (by first | (simp; done) | (simp; omega) | omega))))
  have be2 : Below w.heap.size w w2 := BE1.out.trans (bb2.mono BE1.out.size)
  have c2_u_0 : w2.cell? ⟨w.heap.size, 0, none⟩ = some (.string ⟨u.nm.toArray⟩) := cell_keep bb2 c1_u_0
  have c2_u_1 : w2.cell? ⟨w.heap.size, 1, none⟩ = some (.int .i64 u.kd) := cell_keep bb2 c1_u_1
  have c2_u_2 : w2.cell? ⟨w.heap.size, 2, none⟩ = some (.int .i64 (kk : Int)) := cell_keep bb2 c1_u_2
  have c2_u_3 : w2.cell? ⟨w.heap.size, 3, none⟩ = some (.int .i64 u.fac.1) := cell_keep bb2 c1_u_3
  have c2_u_4 : w2.cell? ⟨w.heap.size, 4, none⟩ = some (.int .i64 u.fac.2) := cell_keep bb2 c1_u_4
  have l2_u : w.heap.size < w2.heap.size := by omega
  have m2_u : w.heap.size < w2.heap.size + 1 := by omega
  have HT2 := Lib.hid (HT1.out.below bb2)
  have BE2 := Lib.hid be2
  clear be2 bb2 hb2 BE1 c1_u_0 c1_u_1 c1_u_2 c1_u_3 c1_u_4 l1_u m1_u HT1
  go_wp2_with fail
  refine (has_any _ _ _ _ _).mono ?_
  rintro e w' ⟨rfl, rfl⟩
  rw [HX.out]
  obtain ⟨_, _, hpe, hcb, _, _⟩ := HT2.out.at HU.out
  cases hpe
  obtain ⟨d0, d1, d2, d3, d4⟩ := hcb
  go_wp2_with fail
  go_ret
  exact ⟨rfl, (by have q := BE2.out; repeat (first | exact q | refine Below.setCell ?_ (by first | omega | (simp; omega)) _ | refine Below.alloc ?_ (by first | omega | (simp; omega)) _ | refine below_drewN ?_ _ | refine Below.drew ?_))⟩
set_option maxRecDepth 100000 in
set_option maxHeartbeats 1600000 in
theorem isu_bbase_m (p : Option Addr) (cap : Nat) (us : List Qn.Un) (i : Nat) (u : Qn.Un) (kk : Nat) (bu : Qn.Un) (w : World) (hu : us[i]? = some u) (ht : Tab w p us) (hcap : us.length ≤ cap) (h : i < 20) (hnb : (u.nm == []) = false) (hk1 : (u.kd != 1) = true) (hk2 : (u.kd != 2) = false) (ha : ((us.take i).any fun v => v.nm == u.nm) = false) (hv : Rt.Ok u.fac.1 u.fac.2) (hp : ¬ u.fac.1 ≤ 0) (hx : decide (0 ≤ (kk : Int) ∧ (kk : Int) < (us.length : Int)) = true) (hq : us[kk]? = some bu) (hbk : u.base = (kk : Int)) (hd1 : (bu.kd != u.kd) = false) (hd2 : (bu.base != (kk : Int)) = true) :
    Calls Try.prog 19 #[.slice p us.length cap, .int .i64 i] w fun e w' => e = .returned (.bool false) ∧ Below w.heap.size w w' := by
  have hil : i < us.length := (List.getElem?_eq_some_iff.1 hu).1
  obtain ⟨b, off, rfl, hc, hb64, hbl⟩ := ht.at hu
  obtain ⟨c0, c1, c2, c3, c4⟩ := hc
  have hic : i ≤ cap := by omega
  have HT0 := Lib.hid ht
  clear hu ht
  have HU := Lib.hid hq
  have hkl : kk < us.length := (List.getElem?_eq_some_iff.1 hq).1
  clear hq
  rw [hbk] at c2
  clear hbk
  have HA := Lib.hid ha
  clear ha
  have HV := Lib.hid hv
  clear hv
  have HX := Lib.hid hx
  clear hx
  go_enter Try.func19, Try.ntmps19
  go_wp2_with fail
  refine (contains_calls _ _ us i u w.heap.size _ (by omega) h (HT0.out.below (by repeat (first | exact Below.refl _ _ | assumption | refine below_drewN ?_ _ | refine Below.setCell ?_ (by first | (simp; done) | (simp; omega)) _ | refine Below.alloc ?_ (by first | (simp; done) | (simp; omega) | omega) _ | refine Below.drew ?_ | refine Below.trans ?_ (Below.mono (by assumption) (by first | (simp; done) | (simp; omega) | omega))))) (by simp) (by go_simp)).mono ?_
  rintro e w1 ⟨rfl, hb1⟩
  rw [HA.out]
  have hz1 := hb1.size
  (try simp at hz1)
  have bb1 : Below w.heap.size w w1 := (by repeat (first | exact Below.refl _ _ | assumption | refine below_drewN ?_ _ | refine Below.setCell ?_ (by first | (simp; done) | (simp; omega)) _ | refine Below.alloc ?_ (by first | (simp; done) | (simp; omega) | omega) _ | refine Below.drew ?_ | refine Below.trans ?_ (Below.mono (by assumption) (by first | (simp; done) | (simp; omega) | omega))))
  have be1 : Below w.heap.size w w1 := bb1
  have c1_u_0 : w1.cell? ⟨w.heap.size, 0, none⟩ = some (.string ⟨u.nm.toArray⟩) := cell_keep hb1 (by go_simp)
  have c1_u_1 : w1.cell? ⟨w.heap.size, 1, none⟩ = some (.int .i64 u.kd) := cell_keep hb1 (by go_simp)
  have c1_u_2 : w1.cell? ⟨w.heap.size, 2, none⟩ = some (.int .i64 (kk : Int)) := cell_keep hb1 (by go_simp)
  have c1_u_3 : w1.cell? ⟨w.heap.size, 3, none⟩ = some (.int .i64 u.fac.1) := cell_keep hb1 (by go_simp)
  have c1_u_4 : w1.cell? ⟨w.heap.size, 4, none⟩ = some (.int .i64 u.fac.2) := cell_keep hb1 (by go_simp)
  have l1_u : w.heap.size < w1.heap.size := by omega
  have m1_u : w.heap.size < w1.heap.size + 1 := by omega
  have HT1 := Lib.hid (HT0.out.below bb1)
  have BE1 := Lib.hid be1
  clear be1 bb1 hb1 HT0
  go_wp2_with fail
  refine (valid_true _ _ _ HV.out).mono ?_
  rintro e w2 ⟨rfl, hb2⟩
  have hz2 := hb2.size
  (try simp at hz2)
  have bb2 : Below w1.heap.size w1 w2 := (by repeat (first | exact Below.refl _ _ | assumption | refine below_drewN ?_ _ | refine Below.setCell ?_ (by first | (simp; done) | (simp; omega)) _ | refine Below.alloc ?_ (by first | (simp; done) | (simp; omega) | omega) _ | refine Below.drew ?_ | refine Below.trans ?_ (Below.mono (by assumption) (by first | (simp; done) | (simp; omega) | omega))))
  have be2 : Below w.heap.size w w2 := BE1.out.trans (bb2.mono BE1.out.size)
  have c2_u_0 : w2.cell? ⟨w.heap.size, 0, none⟩ = some (.string ⟨u.nm.toArray⟩) := cell_keep bb2 c1_u_0
  have c2_u_1 : w2.cell? ⟨w.heap.size, 1, none⟩ = some (.int .i64 u.kd) := cell_keep bb2 c1_u_1
  have c2_u_2 : w2.cell? ⟨w.heap.size, 2, none⟩ = some (.int .i64 (kk : Int)) := cell_keep bb2 c1_u_2
  have c2_u_3 : w2.cell? ⟨w.heap.size, 3, none⟩ = some (.int .i64 u.fac.1) := cell_keep bb2 c1_u_3
  have c2_u_4 : w2.cell? ⟨w.heap.size, 4, none⟩ = some (.int .i64 u.fac.2) := cell_keep bb2 c1_u_4
  have l2_u : w.heap.size < w2.heap.size := by omega
  have m2_u : w.heap.size < w2.heap.size + 1 := by omega
  have HT2 := Lib.hid (HT1.out.below bb2)
  have BE2 := Lib.hid be2
  clear be2 bb2 hb2 BE1 c1_u_0 c1_u_1 c1_u_2 c1_u_3 c1_u_4 l1_u m1_u HT1
  go_wp2_with fail
  refine (has_any _ _ _ _ _).mono ?_
  rintro e w' ⟨rfl, rfl⟩
  rw [HX.out]
  obtain ⟨_, _, hpe, hcb, _, _⟩ := HT2.out.at HU.out
  cases hpe
  obtain ⟨d0, d1, d2, d3, d4⟩ := hcb
  go_wp2_with fail
  go_ret
  exact ⟨rfl, (by have q := BE2.out; repeat (first | exact q | refine Below.setCell ?_ (by first | omega | (simp; omega)) _ | refine Below.alloc ?_ (by first | omega | (simp; omega)) _ | refine below_drewN ?_ _ | refine Below.drew ?_))⟩
set_option maxRecDepth 100000 in
set_option maxHeartbeats 1600000 in
theorem isu_other_m (p : Option Addr) (cap : Nat) (us : List Qn.Un) (i : Nat) (u : Qn.Un) (kk : Nat) (bu : Qn.Un) (w : World) (hu : us[i]? = some u) (ht : Tab w p us) (hcap : us.length ≤ cap) (h : i < 20) (hnb : (u.nm == []) = false) (hk1 : (u.kd != 1) = true) (hk2 : (u.kd != 2) = false) (ha : ((us.take i).any fun v => v.nm == u.nm) = false) (hv : Rt.Ok u.fac.1 u.fac.2) (hp : ¬ u.fac.1 ≤ 0) (hx : decide (0 ≤ (kk : Int) ∧ (kk : Int) < (us.length : Int)) = true) (hq : us[kk]? = some bu) (hbk : u.base = (kk : Int)) (hd1 : (bu.kd != u.kd) = false) (hd2 : (bu.base != (kk : Int)) = false) (hd3 : ((kk : Int) != (i : Int)) = true) :
    Calls Try.prog 19 #[.slice p us.length cap, .int .i64 i] w fun e w' => e = .returned (.bool true) ∧ Below w.heap.size w w' := by
  have hil : i < us.length := (List.getElem?_eq_some_iff.1 hu).1
  obtain ⟨b, off, rfl, hc, hb64, hbl⟩ := ht.at hu
  obtain ⟨c0, c1, c2, c3, c4⟩ := hc
  have hic : i ≤ cap := by omega
  have HT0 := Lib.hid ht
  clear hu ht
  have HU := Lib.hid hq
  have hkl : kk < us.length := (List.getElem?_eq_some_iff.1 hq).1
  clear hq
  rw [hbk] at c2
  clear hbk
  have HA := Lib.hid ha
  clear ha
  have HV := Lib.hid hv
  clear hv
  have HX := Lib.hid hx
  clear hx
  go_enter Try.func19, Try.ntmps19
  go_wp2_with fail
  refine (contains_calls _ _ us i u w.heap.size _ (by omega) h (HT0.out.below (by repeat (first | exact Below.refl _ _ | assumption | refine below_drewN ?_ _ | refine Below.setCell ?_ (by first | (simp; done) | (simp; omega)) _ | refine Below.alloc ?_ (by first | (simp; done) | (simp; omega) | omega) _ | refine Below.drew ?_ | refine Below.trans ?_ (Below.mono (by assumption) (by first | (simp; done) | (simp; omega) | omega))))) (by simp) (by go_simp)).mono ?_
  rintro e w1 ⟨rfl, hb1⟩
  rw [HA.out]
  have hz1 := hb1.size
  (try simp at hz1)
  have bb1 : Below w.heap.size w w1 := (by repeat (first | exact Below.refl _ _ | assumption | refine below_drewN ?_ _ | refine Below.setCell ?_ (by first | (simp; done) | (simp; omega)) _ | refine Below.alloc ?_ (by first | (simp; done) | (simp; omega) | omega) _ | refine Below.drew ?_ | refine Below.trans ?_ (Below.mono (by assumption) (by first | (simp; done) | (simp; omega) | omega))))
  have be1 : Below w.heap.size w w1 := bb1
  have c1_u_0 : w1.cell? ⟨w.heap.size, 0, none⟩ = some (.string ⟨u.nm.toArray⟩) := cell_keep hb1 (by go_simp)
  have c1_u_1 : w1.cell? ⟨w.heap.size, 1, none⟩ = some (.int .i64 u.kd) := cell_keep hb1 (by go_simp)
  have c1_u_2 : w1.cell? ⟨w.heap.size, 2, none⟩ = some (.int .i64 (kk : Int)) := cell_keep hb1 (by go_simp)
  have c1_u_3 : w1.cell? ⟨w.heap.size, 3, none⟩ = some (.int .i64 u.fac.1) := cell_keep hb1 (by go_simp)
  have c1_u_4 : w1.cell? ⟨w.heap.size, 4, none⟩ = some (.int .i64 u.fac.2) := cell_keep hb1 (by go_simp)
  have l1_u : w.heap.size < w1.heap.size := by omega
  have m1_u : w.heap.size < w1.heap.size + 1 := by omega
  have HT1 := Lib.hid (HT0.out.below bb1)
  have BE1 := Lib.hid be1
  clear be1 bb1 hb1 HT0
  go_wp2_with fail
  refine (valid_true _ _ _ HV.out).mono ?_
  rintro e w2 ⟨rfl, hb2⟩
  have hz2 := hb2.size
  (try simp at hz2)
  have bb2 : Below w1.heap.size w1 w2 := (by repeat (first | exact Below.refl _ _ | assumption | refine below_drewN ?_ _ | refine Below.setCell ?_ (by first | (simp; done) | (simp; omega)) _ | refine Below.alloc ?_ (by first | (simp; done) | (simp; omega) | omega) _ | refine Below.drew ?_ | refine Below.trans ?_ (Below.mono (by assumption) (by first | (simp; done) | (simp; omega) | omega))))
  have be2 : Below w.heap.size w w2 := BE1.out.trans (bb2.mono BE1.out.size)
  have c2_u_0 : w2.cell? ⟨w.heap.size, 0, none⟩ = some (.string ⟨u.nm.toArray⟩) := cell_keep bb2 c1_u_0
  have c2_u_1 : w2.cell? ⟨w.heap.size, 1, none⟩ = some (.int .i64 u.kd) := cell_keep bb2 c1_u_1
  have c2_u_2 : w2.cell? ⟨w.heap.size, 2, none⟩ = some (.int .i64 (kk : Int)) := cell_keep bb2 c1_u_2
  have c2_u_3 : w2.cell? ⟨w.heap.size, 3, none⟩ = some (.int .i64 u.fac.1) := cell_keep bb2 c1_u_3
  have c2_u_4 : w2.cell? ⟨w.heap.size, 4, none⟩ = some (.int .i64 u.fac.2) := cell_keep bb2 c1_u_4
  have l2_u : w.heap.size < w2.heap.size := by omega
  have m2_u : w.heap.size < w2.heap.size + 1 := by omega
  have HT2 := Lib.hid (HT1.out.below bb2)
  have BE2 := Lib.hid be2
  clear be2 bb2 hb2 BE1 c1_u_0 c1_u_1 c1_u_2 c1_u_3 c1_u_4 l1_u m1_u HT1
  go_wp2_with fail
  refine (has_any _ _ _ _ _).mono ?_
  rintro e w' ⟨rfl, rfl⟩
  rw [HX.out]
  obtain ⟨_, _, hpe, hcb, _, _⟩ := HT2.out.at HU.out
  cases hpe
  obtain ⟨d0, d1, d2, d3, d4⟩ := hcb
  go_wp2_with fail
  go_ret
  exact ⟨rfl, (by have q := BE2.out; repeat (first | exact q | refine Below.setCell ?_ (by first | omega | (simp; omega)) _ | refine Below.alloc ?_ (by first | omega | (simp; omega)) _ | refine below_drewN ?_ _ | refine Below.drew ?_))⟩
set_option maxRecDepth 100000 in
set_option maxHeartbeats 1600000 in
theorem isu_one_m (p : Option Addr) (cap : Nat) (us : List Qn.Un) (i : Nat) (u : Qn.Un) (kk : Nat) (bu : Qn.Un) (w : World) (hu : us[i]? = some u) (ht : Tab w p us) (hcap : us.length ≤ cap) (h : i < 20) (hnb : (u.nm == []) = false) (hk1 : (u.kd != 1) = true) (hk2 : (u.kd != 2) = false) (ha : ((us.take i).any fun v => v.nm == u.nm) = false) (hv : Rt.Ok u.fac.1 u.fac.2) (hp : ¬ u.fac.1 ≤ 0) (hx : decide (0 ≤ (kk : Int) ∧ (kk : Int) < (us.length : Int)) = true) (hq : us[kk]? = some bu) (hbk : u.base = (kk : Int)) (hd1 : (bu.kd != u.kd) = false) (hd2 : (bu.base != (kk : Int)) = false) (hd3 : ((kk : Int) != (i : Int)) = false) (hf1 : (u.fac.1 == 1) = true) (hf2 : (u.fac.2 == 1) = true) :
    Calls Try.prog 19 #[.slice p us.length cap, .int .i64 i] w fun e w' => e = .returned (.bool true) ∧ Below w.heap.size w w' := by
  have hil : i < us.length := (List.getElem?_eq_some_iff.1 hu).1
  obtain ⟨b, off, rfl, hc, hb64, hbl⟩ := ht.at hu
  obtain ⟨c0, c1, c2, c3, c4⟩ := hc
  have hic : i ≤ cap := by omega
  have HT0 := Lib.hid ht
  clear hu ht
  have HU := Lib.hid hq
  have hkl : kk < us.length := (List.getElem?_eq_some_iff.1 hq).1
  clear hq
  rw [hbk] at c2
  clear hbk
  have HA := Lib.hid ha
  clear ha
  have HV := Lib.hid hv
  clear hv
  have HX := Lib.hid hx
  clear hx
  go_enter Try.func19, Try.ntmps19
  go_wp2_with fail
  refine (contains_calls _ _ us i u w.heap.size _ (by omega) h (HT0.out.below (by repeat (first | exact Below.refl _ _ | assumption | refine below_drewN ?_ _ | refine Below.setCell ?_ (by first | (simp; done) | (simp; omega)) _ | refine Below.alloc ?_ (by first | (simp; done) | (simp; omega) | omega) _ | refine Below.drew ?_ | refine Below.trans ?_ (Below.mono (by assumption) (by first | (simp; done) | (simp; omega) | omega))))) (by simp) (by go_simp)).mono ?_
  rintro e w1 ⟨rfl, hb1⟩
  rw [HA.out]
  have hz1 := hb1.size
  (try simp at hz1)
  have bb1 : Below w.heap.size w w1 := (by repeat (first | exact Below.refl _ _ | assumption | refine below_drewN ?_ _ | refine Below.setCell ?_ (by first | (simp; done) | (simp; omega)) _ | refine Below.alloc ?_ (by first | (simp; done) | (simp; omega) | omega) _ | refine Below.drew ?_ | refine Below.trans ?_ (Below.mono (by assumption) (by first | (simp; done) | (simp; omega) | omega))))
  have be1 : Below w.heap.size w w1 := bb1
  have c1_u_0 : w1.cell? ⟨w.heap.size, 0, none⟩ = some (.string ⟨u.nm.toArray⟩) := cell_keep hb1 (by go_simp)
  have c1_u_1 : w1.cell? ⟨w.heap.size, 1, none⟩ = some (.int .i64 u.kd) := cell_keep hb1 (by go_simp)
  have c1_u_2 : w1.cell? ⟨w.heap.size, 2, none⟩ = some (.int .i64 (kk : Int)) := cell_keep hb1 (by go_simp)
  have c1_u_3 : w1.cell? ⟨w.heap.size, 3, none⟩ = some (.int .i64 u.fac.1) := cell_keep hb1 (by go_simp)
  have c1_u_4 : w1.cell? ⟨w.heap.size, 4, none⟩ = some (.int .i64 u.fac.2) := cell_keep hb1 (by go_simp)
  have l1_u : w.heap.size < w1.heap.size := by omega
  have m1_u : w.heap.size < w1.heap.size + 1 := by omega
  have HT1 := Lib.hid (HT0.out.below bb1)
  have BE1 := Lib.hid be1
  clear be1 bb1 hb1 HT0
  go_wp2_with fail
  refine (valid_true _ _ _ HV.out).mono ?_
  rintro e w2 ⟨rfl, hb2⟩
  have hz2 := hb2.size
  (try simp at hz2)
  have bb2 : Below w1.heap.size w1 w2 := (by repeat (first | exact Below.refl _ _ | assumption | refine below_drewN ?_ _ | refine Below.setCell ?_ (by first | (simp; done) | (simp; omega)) _ | refine Below.alloc ?_ (by first | (simp; done) | (simp; omega) | omega) _ | refine Below.drew ?_ | refine Below.trans ?_ (Below.mono (by assumption) (by first | (simp; done) | (simp; omega) | omega))))
  have be2 : Below w.heap.size w w2 := BE1.out.trans (bb2.mono BE1.out.size)
  have c2_u_0 : w2.cell? ⟨w.heap.size, 0, none⟩ = some (.string ⟨u.nm.toArray⟩) := cell_keep bb2 c1_u_0
  have c2_u_1 : w2.cell? ⟨w.heap.size, 1, none⟩ = some (.int .i64 u.kd) := cell_keep bb2 c1_u_1
  have c2_u_2 : w2.cell? ⟨w.heap.size, 2, none⟩ = some (.int .i64 (kk : Int)) := cell_keep bb2 c1_u_2
  have c2_u_3 : w2.cell? ⟨w.heap.size, 3, none⟩ = some (.int .i64 u.fac.1) := cell_keep bb2 c1_u_3
  have c2_u_4 : w2.cell? ⟨w.heap.size, 4, none⟩ = some (.int .i64 u.fac.2) := cell_keep bb2 c1_u_4
  have l2_u : w.heap.size < w2.heap.size := by omega
  have m2_u : w.heap.size < w2.heap.size + 1 := by omega
  have HT2 := Lib.hid (HT1.out.below bb2)
  have BE2 := Lib.hid be2
  clear be2 bb2 hb2 BE1 c1_u_0 c1_u_1 c1_u_2 c1_u_3 c1_u_4 l1_u m1_u HT1
  go_wp2_with fail
  refine (has_any _ _ _ _ _).mono ?_
  rintro e w' ⟨rfl, rfl⟩
  rw [HX.out]
  obtain ⟨_, _, hpe, hcb, _, _⟩ := HT2.out.at HU.out
  cases hpe
  obtain ⟨d0, d1, d2, d3, d4⟩ := hcb
  go_wp2_with fail
  go_ret
  exact ⟨rfl, (by have q := BE2.out; repeat (first | exact q | refine Below.setCell ?_ (by first | omega | (simp; omega)) _ | refine Below.alloc ?_ (by first | omega | (simp; omega)) _ | refine below_drewN ?_ _ | refine Below.drew ?_))⟩
set_option maxRecDepth 100000 in
set_option maxHeartbeats 1600000 in
theorem isu_odd1_m (p : Option Addr) (cap : Nat) (us : List Qn.Un) (i : Nat) (u : Qn.Un) (kk : Nat) (bu : Qn.Un) (w : World) (hu : us[i]? = some u) (ht : Tab w p us) (hcap : us.length ≤ cap) (h : i < 20) (hnb : (u.nm == []) = false) (hk1 : (u.kd != 1) = true) (hk2 : (u.kd != 2) = false) (ha : ((us.take i).any fun v => v.nm == u.nm) = false) (hv : Rt.Ok u.fac.1 u.fac.2) (hp : ¬ u.fac.1 ≤ 0) (hx : decide (0 ≤ (kk : Int) ∧ (kk : Int) < (us.length : Int)) = true) (hq : us[kk]? = some bu) (hbk : u.base = (kk : Int)) (hd1 : (bu.kd != u.kd) = false) (hd2 : (bu.base != (kk : Int)) = false) (hd3 : ((kk : Int) != (i : Int)) = false) (hf1 : (u.fac.1 == 1) = false) :
    Calls Try.prog 19 #[.slice p us.length cap, .int .i64 i] w fun e w' => e = .returned (.bool false) ∧ Below w.heap.size w w' := by
  have hil : i < us.length := (List.getElem?_eq_some_iff.1 hu).1
  obtain ⟨b, off, rfl, hc, hb64, hbl⟩ := ht.at hu
  obtain ⟨c0, c1, c2, c3, c4⟩ := hc
  have hic : i ≤ cap := by omega
  have HT0 := Lib.hid ht
  clear hu ht
  have HU := Lib.hid hq
  have hkl : kk < us.length := (List.getElem?_eq_some_iff.1 hq).1
  clear hq
  rw [hbk] at c2
  clear hbk
  have HA := Lib.hid ha
  clear ha
  have HV := Lib.hid hv
  clear hv
  have HX := Lib.hid hx
  clear hx
  go_enter Try.func19, Try.ntmps19
  go_wp2_with fail
  refine (contains_calls _ _ us i u w.heap.size _ (by omega) h (HT0.out.below (by repeat (first | exact Below.refl _ _ | assumption | refine below_drewN ?_ _ | refine Below.setCell ?_ (by first | (simp; done) | (simp; omega)) _ | refine Below.alloc ?_ (by first | (simp; done) | (simp; omega) | omega) _ | refine Below.drew ?_ | refine Below.trans ?_ (Below.mono (by assumption) (by first | (simp; done) | (simp; omega) | omega))))) (by simp) (by go_simp)).mono ?_
  rintro e w1 ⟨rfl, hb1⟩
  rw [HA.out]
  have hz1 := hb1.size
  (try simp at hz1)
  have bb1 : Below w.heap.size w w1 := (by repeat (first | exact Below.refl _ _ | assumption | refine below_drewN ?_ _ | refine Below.setCell ?_ (by first | (simp; done) | (simp; omega)) _ | refine Below.alloc ?_ (by first | (simp; done) | (simp; omega) | omega) _ | refine Below.drew ?_ | refine Below.trans ?_ (Below.mono (by assumption) (by first | (simp; done) | (simp; omega) | omega))))
  have be1 : Below w.heap.size w w1 := bb1
  have c1_u_0 : w1.cell? ⟨w.heap.size, 0, none⟩ = some (.string ⟨u.nm.toArray⟩) := cell_keep hb1 (by go_simp)
  have c1_u_1 : w1.cell? ⟨w.heap.size, 1, none⟩ = some (.int .i64 u.kd) := cell_keep hb1 (by go_simp)
  have c1_u_2 : w1.cell? ⟨w.heap.size, 2, none⟩ = some (.int .i64 (kk : Int)) := cell_keep hb1 (by go_simp)
  have c1_u_3 : w1.cell? ⟨w.heap.size, 3, none⟩ = some (.int .i64 u.fac.1) := cell_keep hb1 (by go_simp)
  have c1_u_4 : w1.cell? ⟨w.heap.size, 4, none⟩ = some (.int .i64 u.fac.2) := cell_keep hb1 (by go_simp)
  have l1_u : w.heap.size < w1.heap.size := by omega
  have m1_u : w.heap.size < w1.heap.size + 1 := by omega
  have HT1 := Lib.hid (HT0.out.below bb1)
  have BE1 := Lib.hid be1
  clear be1 bb1 hb1 HT0
  go_wp2_with fail
  refine (valid_true _ _ _ HV.out).mono ?_
  rintro e w2 ⟨rfl, hb2⟩
  have hz2 := hb2.size
  (try simp at hz2)
  have bb2 : Below w1.heap.size w1 w2 := (by repeat (first | exact Below.refl _ _ | assumption | refine below_drewN ?_ _ | refine Below.setCell ?_ (by first | (simp; done) | (simp; omega)) _ | refine Below.alloc ?_ (by first | (simp; done) | (simp; omega) | omega) _ | refine Below.drew ?_ | refine Below.trans ?_ (Below.mono (by assumption) (by first | (simp; done) | (simp; omega) | omega))))
  have be2 : Below w.heap.size w w2 := BE1.out.trans (bb2.mono BE1.out.size)
  have c2_u_0 : w2.cell? ⟨w.heap.size, 0, none⟩ = some (.string ⟨u.nm.toArray⟩) := cell_keep bb2 c1_u_0
  have c2_u_1 : w2.cell? ⟨w.heap.size, 1, none⟩ = some (.int .i64 u.kd) := cell_keep bb2 c1_u_1
  have c2_u_2 : w2.cell? ⟨w.heap.size, 2, none⟩ = some (.int .i64 (kk : Int)) := cell_keep bb2 c1_u_2
  have c2_u_3 : w2.cell? ⟨w.heap.size, 3, none⟩ = some (.int .i64 u.fac.1) := cell_keep bb2 c1_u_3
  have c2_u_4 : w2.cell? ⟨w.heap.size, 4, none⟩ = some (.int .i64 u.fac.2) := cell_keep bb2 c1_u_4
  have l2_u : w.heap.size < w2.heap.size := by omega
  have m2_u : w.heap.size < w2.heap.size + 1 := by omega
  have HT2 := Lib.hid (HT1.out.below bb2)
  have BE2 := Lib.hid be2
  clear be2 bb2 hb2 BE1 c1_u_0 c1_u_1 c1_u_2 c1_u_3 c1_u_4 l1_u m1_u HT1
  go_wp2_with fail
  refine (has_any _ _ _ _ _).mono ?_
  rintro e w' ⟨rfl, rfl⟩
  rw [HX.out]
  obtain ⟨_, _, hpe, hcb, _, _⟩ := HT2.out.at HU.out
  cases hpe
  obtain ⟨d0, d1, d2, d3, d4⟩ := hcb
  go_wp2_with fail
  go_ret
  exact ⟨rfl, (by have q := BE2.out; repeat (first | exact q | refine Below.setCell ?_ (by first | omega | (simp; omega)) _ | refine Below.alloc ?_ (by first | omega | (simp; omega)) _ | refine below_drewN ?_ _ | refine Below.drew ?_))⟩
set_option maxRecDepth 100000 in
set_option maxHeartbeats 1600000 in
theorem isu_odd2_m (p : Option Addr) (cap : Nat) (us : List Qn.Un) (i : Nat) (u : Qn.Un) (kk : Nat) (bu : Qn.Un) (w : World) (hu : us[i]? = some u) (ht : Tab w p us) (hcap : us.length ≤ cap) (h : i < 20) (hnb : (u.nm == []) = false) (hk1 : (u.kd != 1) = true) (hk2 : (u.kd != 2) = false) (ha : ((us.take i).any fun v => v.nm == u.nm) = false) (hv : Rt.Ok u.fac.1 u.fac.2) (hp : ¬ u.fac.1 ≤ 0) (hx : decide (0 ≤ (kk : Int) ∧ (kk : Int) < (us.length : Int)) = true) (hq : us[kk]? = some bu) (hbk : u.base = (kk : Int)) (hd1 : (bu.kd != u.kd) = false) (hd2 : (bu.base != (kk : Int)) = false) (hd3 : ((kk : Int) != (i : Int)) = false) (hf1 : (u.fac.1 == 1) = true) (hf2 : (u.fac.2 == 1) = false) :
    Calls Try.prog 19 #[.slice p us.length cap, .int .i64 i] w fun e w' => e = .returned (.bool false) ∧ Below w.heap.size w w' := by
  have hil : i < us.length := (List.getElem?_eq_some_iff.1 hu).1
  obtain ⟨b, off, rfl, hc, hb64, hbl⟩ := ht.at hu
  obtain ⟨c0, c1, c2, c3, c4⟩ := hc
  have hic : i ≤ cap := by omega
  have HT0 := Lib.hid ht
  clear hu ht
  have HU := Lib.hid hq
  have hkl : kk < us.length := (List.getElem?_eq_some_iff.1 hq).1
  clear hq
  rw [hbk] at c2
  clear hbk
  have HA := Lib.hid ha
  clear ha
  have HV := Lib.hid hv
  clear hv
  have HX := Lib.hid hx
  clear hx
  go_enter Try.func19, Try.ntmps19
  go_wp2_with fail
  refine (contains_calls _ _ us i u w.heap.size _ (by omega) h (HT0.out.below (by repeat (first | exact Below.refl _ _ | assumption | refine below_drewN ?_ _ | refine Below.setCell ?_ (by first | (simp; done) | (simp; omega)) _ | refine Below.alloc ?_ (by first | (simp; done) | (simp; omega) | omega) _ | refine Below.drew ?_ | refine Below.trans ?_ (Below.mono (by assumption) (by first | (simp; done) | (simp; omega) | omega))))) (by simp) (by go_simp)).mono ?_
  rintro e w1 ⟨rfl, hb1⟩
  rw [HA.out]
  have hz1 := hb1.size
  (try simp at hz1)
  have bb1 : Below w.heap.size w w1 := (by repeat (first | exact Below.refl _ _ | assumption | refine below_drewN ?_ _ | refine Below.setCell ?_ (by first | (simp; done) | (simp; omega)) _ | refine Below.alloc ?_ (by first | (simp; done) | (simp; omega) | omega) _ | refine Below.drew ?_ | refine Below.trans ?_ (Below.mono (by assumption) (by first | (simp; done) | (simp; omega) | omega))))
  have be1 : Below w.heap.size w w1 := bb1
  have c1_u_0 : w1.cell? ⟨w.heap.size, 0, none⟩ = some (.string ⟨u.nm.toArray⟩) := cell_keep hb1 (by go_simp)
  have c1_u_1 : w1.cell? ⟨w.heap.size, 1, none⟩ = some (.int .i64 u.kd) := cell_keep hb1 (by go_simp)
  have c1_u_2 : w1.cell? ⟨w.heap.size, 2, none⟩ = some (.int .i64 (kk : Int)) := cell_keep hb1 (by go_simp)
  have c1_u_3 : w1.cell? ⟨w.heap.size, 3, none⟩ = some (.int .i64 u.fac.1) := cell_keep hb1 (by go_simp)
  have c1_u_4 : w1.cell? ⟨w.heap.size, 4, none⟩ = some (.int .i64 u.fac.2) := cell_keep hb1 (by go_simp)
  have l1_u : w.heap.size < w1.heap.size := by omega
  have m1_u : w.heap.size < w1.heap.size + 1 := by omega
  have HT1 := Lib.hid (HT0.out.below bb1)
  have BE1 := Lib.hid be1
  clear be1 bb1 hb1 HT0
  go_wp2_with fail
  refine (valid_true _ _ _ HV.out).mono ?_
  rintro e w2 ⟨rfl, hb2⟩
  have hz2 := hb2.size
  (try simp at hz2)
  have bb2 : Below w1.heap.size w1 w2 := (by repeat (first | exact Below.refl _ _ | assumption | refine below_drewN ?_ _ | refine Below.setCell ?_ (by first | (simp; done) | (simp; omega)) _ | refine Below.alloc ?_ (by first | (simp; done) | (simp; omega) | omega) _ | refine Below.drew ?_ | refine Below.trans ?_ (Below.mono (by assumption) (by first | (simp; done) | (simp; omega) | omega))))
  have be2 : Below w.heap.size w w2 := BE1.out.trans (bb2.mono BE1.out.size)
  have c2_u_0 : w2.cell? ⟨w.heap.size, 0, none⟩ = some (.string ⟨u.nm.toArray⟩) := cell_keep bb2 c1_u_0
  have c2_u_1 : w2.cell? ⟨w.heap.size, 1, none⟩ = some (.int .i64 u.kd) := cell_keep bb2 c1_u_1
  have c2_u_2 : w2.cell? ⟨w.heap.size, 2, none⟩ = some (.int .i64 (kk : Int)) := cell_keep bb2 c1_u_2
  have c2_u_3 : w2.cell? ⟨w.heap.size, 3, none⟩ = some (.int .i64 u.fac.1) := cell_keep bb2 c1_u_3
  have c2_u_4 : w2.cell? ⟨w.heap.size, 4, none⟩ = some (.int .i64 u.fac.2) := cell_keep bb2 c1_u_4
  have l2_u : w.heap.size < w2.heap.size := by omega
  have m2_u : w.heap.size < w2.heap.size + 1 := by omega
  have HT2 := Lib.hid (HT1.out.below bb2)
  have BE2 := Lib.hid be2
  clear be2 bb2 hb2 BE1 c1_u_0 c1_u_1 c1_u_2 c1_u_3 c1_u_4 l1_u m1_u HT1
  go_wp2_with fail
  refine (has_any _ _ _ _ _).mono ?_
  rintro e w' ⟨rfl, rfl⟩
  rw [HX.out]
  obtain ⟨_, _, hpe, hcb, _, _⟩ := HT2.out.at HU.out
  cases hpe
  obtain ⟨d0, d1, d2, d3, d4⟩ := hcb
  go_wp2_with fail
  go_ret
  exact ⟨rfl, (by have q := BE2.out; repeat (first | exact q | refine Below.setCell ?_ (by first | omega | (simp; omega)) _ | refine Below.alloc ?_ (by first | omega | (simp; omega)) _ | refine below_drewN ?_ _ | refine Below.drew ?_))⟩
end Go.Proofs.Ytpdknjbhnelidaa

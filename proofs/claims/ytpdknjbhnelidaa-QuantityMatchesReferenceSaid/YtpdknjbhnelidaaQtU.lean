/- The reference's right: its loop and its end. -/
import Derived.Test.YtpdknjbhnelidaaQtT
namespace Go.Proofs.Ytpdknjbhnelidaa
open Go.RowKit

theorem any_step {us : List Qn.Un} {i j : Nat} {v : Qn.Un} {f : Qn.Un → Bool} (hj : j < i) (hv : us[j]? = some v) : ((us.take i).drop j).any f = (f v || ((us.take i).drop (j + 1)).any f) := by
  have h : (us.take i)[j]? = some v := by rw [List.getElem?_take, if_pos hj, hv]
  obtain ⟨hk, rfl⟩ := List.getElem?_eq_some_iff.1 h
  rw [List.drop_eq_getElem_cons hk, List.any_cons]
theorem any_done {us : List Qn.Un} {i : Nat} {f : Qn.Un → Bool} : ((us.take i).drop i).any f = false := by
  rw [List.drop_eq_nil_of_le (by rw [List.length_take]; omega)]
  rfl
set_option maxRecDepth 100000 in
set_option maxHeartbeats 3200000 in
theorem right_go_g (p : Option Addr) (cap : Nat) (us : List Qn.Un) (i : Nat) (u : Qn.Un) (kk : Nat) (bu : Qn.Un) (dup res : Bool) (w : World) (hu : us[i]? = some u) (ht : Tab w p us) (h : i < 20) (hnb : u.nm.isEmpty = false) (k1 : (u.kd != 1) = false) (hv : decide (Rt.Ok u.fac.1 u.fac.2) = true) (h1 : 1 ≤ u.fac.1) (hbk : u.base = (kk : Int)) (hkl : kk < us.length) (hq : us[kk]? = some bu) (hd : (us.take i).any (fun v => v.nm == u.nm) = dup) (hres : (dup = true → res = false) ∧ (dup = false → res = ((bu.base == (kk : Int)) && (bu.kd == u.kd) && (((kk : Int) != (i : Int)) || ((u.fac.1 == 1) && (u.fac.2 == 1)))))) :
    Calls Try.prog 20 #[.slice p us.length cap, .int .i64 i] w fun e w' => e = .returned (.bool (res)) ∧ Below w.heap.size w w' := by
  have HV := Lib.hid hv
  have HQ := Lib.hid hq
  have HD := Lib.hid hd
  have HRES := Lib.hid hres
  clear hv hq hd hres
  obtain ⟨ub, uo, rfl, ⟨c0, c1, c2, c3, c4⟩, _, hub⟩ := ht.at hu
  have HT0 := Lib.hid ht
  rw [hbk] at c2
  have hlt := (List.getElem?_eq_some_iff.1 hu).1
  have hi0 : (0 : Int) ≤ (i : Int) := by omega
  have hi1 : (i : Int) < (us.length : Int) := by omega
  have hkl0 : (0 : Int) ≤ (kk : Int) := by omega
  have hkl1 : (kk : Int) < (us.length : Int) := by omega
  clear hu ht hbk
  go_enter Try.func20, Try.ntmps20
  go_wp2_with fail
  refine (rvalid_dec u.fac.1 u.fac.2 _).mono ?_
  rintro e w1 ⟨rfl, hb1⟩
  rw [HV.out]
  have hz1 := hb1.size
  (try simp at hz1)
  have bb1 : Below w.heap.size w w1 := (by repeat (first | exact Below.refl _ _ | assumption | refine below_drewN ?_ _ | refine Below.setCell ?_ (by first | (simp; done) | (simp; omega)) _ | refine Below.alloc ?_ (by first | (simp; done) | (simp; omega) | omega) _ | refine Below.drew ?_ | refine Below.trans ?_ (Below.mono (by assumption) (by first | (simp; done) | (simp; omega) | omega))))
  have be1 : Below w.heap.size w w1 := bb1
  have c1_u_0 : w1.cell? ⟨w.heap.size, 0, none⟩ = some (.string ⟨u.nm.toArray⟩) := cell_keep hb1 (by go_simp)
  have c1_u_1 : w1.cell? ⟨w.heap.size, 1, none⟩ = some (.int .i64 u.kd) := cell_keep hb1 (by go_simp)
  have c1_u_2 : w1.cell? ⟨w.heap.size, 2, none⟩ = some (.int .i64 kk) := cell_keep hb1 (by go_simp)
  have c1_u_3 : w1.cell? ⟨w.heap.size, 3, none⟩ = some (.int .i64 u.fac.1) := cell_keep hb1 (by go_simp)
  have c1_u_4 : w1.cell? ⟨w.heap.size, 4, none⟩ = some (.int .i64 u.fac.2) := cell_keep hb1 (by go_simp)
  have l1_u : w.heap.size < w1.heap.size := by omega
  have m1_u : w.heap.size < w1.heap.size + 1 := by omega
  have HT1 := Lib.hid (HT0.out.below bb1)
  have BE1 := Lib.hid be1
  clear be1 bb1 hb1 HT0
  have HBASE := BE1
  go_wp2_with fail
  go_loopw [6] (fun s wr => ∃ j : Nat, s = .int .i64 j ∧ j ≤ i ∧ ((us.take i).drop j).any (fun v => v.nm == u.nm) = dup ∧ Below w1.heap.size w1 wr) (fun s _ => i - (intOf s).toNat)
  case atStart => exact ⟨0, rfl, Nat.zero_le _, HD.out, Below.refl _ _⟩
  case round =>
    obtain ⟨j, rfl, hj, hd, hbw⟩ := hrel
    have HDJ := Lib.hid hd
    have HBW := Lib.hid hbw
    have d0 := cell_keep HBW.out c1_u_0
    have d1 := cell_keep HBW.out c1_u_1
    have d2 := cell_keep HBW.out c1_u_2
    have d3 := cell_keep HBW.out c1_u_3
    have d4 := cell_keep HBW.out c1_u_4
    have hlu : w.heap.size < wr.heap.size := World.block_lt_of_cell? wr _ d0
    have hlu2 : w.heap.size < wr.heap.size + 1 := by omega
    clear hd hbw
    by_cases hji : j < i
    · have hjl : j < us.length := by omega
      have hw0 := List.getElem?_eq_getElem hjl
      generalize us[j] = v at hw0
      obtain ⟨_, _, hpe, ⟨e0, _, _, _, _⟩, _, hvl⟩ := (HT1.out.below HBW.out).at hw0
      cases hpe
      have hj0 : (0 : Int) ≤ (j : Int) := by omega
      have hj1 : (j : Int) < (us.length : Int) := by omega
      have hdj := HDJ.out
      rw [any_step hji hw0] at hdj
      cases hnm : (v.nm == u.nm)
      · rw [hnm, Bool.false_or] at hdj
        have HN := Lib.hid hdj
        clear hdj hw0
        go_wp2_with fail
        go_quiet (fail)
        go_wp2_with fail
        go_roundw
        case rel => exact ⟨j + 1, by simp, hji, HN.out, below_drewN HBW.out _⟩
        case measure =>
          simp only [intOf]
          exact meas_lt hji
      · rw [hnm, Bool.true_or] at hdj
        obtain rfl : true = dup := hdj
        obtain rfl : res = false := HRES.out.1 rfl
        clear hw0
        go_wp2_with fail
        go_quiet (fail)
        go_wp2_with fail
        go_ret
        exact ⟨rfl, HBASE.out.trans (below_drewN HBW.out _ |>.mono HBASE.out.size)⟩
    · obtain rfl : j = i := by omega
      have hdj := HDJ.out
      rw [any_done] at hdj
      obtain rfl : false = dup := hdj
      have HRS := Lib.hid (HRES.out.2 rfl)
      obtain ⟨_, _, hpe, ⟨f0, f1, f2, f3, f4⟩, _, hvl⟩ := (HT1.out.below HBW.out).at HQ.out
      cases hpe
      have hk0 : (0 : Int) ≤ (kk : Int) := by omega
      have hk1 : (kk : Int) < (us.length : Int) := by omega
      have hubr := World.block_lt_of_cell? wr _ f0
      clear hlt
      cases hb1 : (bu.base == (kk : Int))
      · obtain rfl : res = false := by rw [HRS.out, hb1]; simp
        go_wp2_with fail
        go_ret
        exact ⟨rfl, HBASE.out.trans ((HBW.out.trans ((show Below wr.heap.size wr _ from (by repeat (first | exact Below.refl _ _ | assumption | refine below_drewN ?_ _ | refine Below.setCell ?_ (by first | (simp; done) | (simp; omega)) _ | refine Below.alloc ?_ (by first | (simp; done) | (simp; omega) | omega) _ | refine Below.drew ?_ | refine Below.trans ?_ (Below.mono (by assumption) (by first | (simp; done) | (simp; omega) | omega))))).mono HBW.out.size)).mono HBASE.out.size)⟩
      cases hb2 : (bu.kd == u.kd)
      · obtain rfl : res = false := by rw [HRS.out, hb1, hb2]; simp
        go_wp2_with fail
        go_ret
        exact ⟨rfl, HBASE.out.trans ((HBW.out.trans ((show Below wr.heap.size wr _ from (by repeat (first | exact Below.refl _ _ | assumption | refine below_drewN ?_ _ | refine Below.setCell ?_ (by first | (simp; done) | (simp; omega)) _ | refine Below.alloc ?_ (by first | (simp; done) | (simp; omega) | omega) _ | refine Below.drew ?_ | refine Below.trans ?_ (Below.mono (by assumption) (by first | (simp; done) | (simp; omega) | omega))))).mono HBW.out.size)).mono HBASE.out.size)⟩
      cases hb3 : ((kk : Int) != (j : Int))
      rotate_left
      · obtain rfl : res = true := by rw [HRS.out, hb1, hb2, hb3]; simp
        go_wp2_with fail
        go_ret
        exact ⟨rfl, HBASE.out.trans ((HBW.out.trans ((show Below wr.heap.size wr _ from (by repeat (first | exact Below.refl _ _ | assumption | refine below_drewN ?_ _ | refine Below.setCell ?_ (by first | (simp; done) | (simp; omega)) _ | refine Below.alloc ?_ (by first | (simp; done) | (simp; omega) | omega) _ | refine Below.drew ?_ | refine Below.trans ?_ (Below.mono (by assumption) (by first | (simp; done) | (simp; omega) | omega))))).mono HBW.out.size)).mono HBASE.out.size)⟩
      cases hb4 : (u.fac.1 == 1)
      · obtain rfl : res = false := by rw [HRS.out, hb1, hb2, hb3, hb4]; simp
        go_wp2_with fail
        go_ret
        exact ⟨rfl, HBASE.out.trans ((HBW.out.trans ((show Below wr.heap.size wr _ from (by repeat (first | exact Below.refl _ _ | assumption | refine below_drewN ?_ _ | refine Below.setCell ?_ (by first | (simp; done) | (simp; omega)) _ | refine Below.alloc ?_ (by first | (simp; done) | (simp; omega) | omega) _ | refine Below.drew ?_ | refine Below.trans ?_ (Below.mono (by assumption) (by first | (simp; done) | (simp; omega) | omega))))).mono HBW.out.size)).mono HBASE.out.size)⟩
      cases hb5 : (u.fac.2 == 1)
      · obtain rfl : res = false := by rw [HRS.out, hb1, hb2, hb3, hb4, hb5]; simp
        go_wp2_with fail
        go_ret
        exact ⟨rfl, HBASE.out.trans ((HBW.out.trans ((show Below wr.heap.size wr _ from (by repeat (first | exact Below.refl _ _ | assumption | refine below_drewN ?_ _ | refine Below.setCell ?_ (by first | (simp; done) | (simp; omega)) _ | refine Below.alloc ?_ (by first | (simp; done) | (simp; omega) | omega) _ | refine Below.drew ?_ | refine Below.trans ?_ (Below.mono (by assumption) (by first | (simp; done) | (simp; omega) | omega))))).mono HBW.out.size)).mono HBASE.out.size)⟩
      · obtain rfl : res = true := by rw [HRS.out, hb1, hb2, hb3, hb4, hb5]; simp
        go_wp2_with fail
        go_ret
        exact ⟨rfl, HBASE.out.trans ((HBW.out.trans ((show Below wr.heap.size wr _ from (by repeat (first | exact Below.refl _ _ | assumption | refine below_drewN ?_ _ | refine Below.setCell ?_ (by first | (simp; done) | (simp; omega)) _ | refine Below.alloc ?_ (by first | (simp; done) | (simp; omega) | omega) _ | refine Below.drew ?_ | refine Below.trans ?_ (Below.mono (by assumption) (by first | (simp; done) | (simp; omega) | omega))))).mono HBW.out.size)).mono HBASE.out.size)⟩
set_option maxRecDepth 100000 in
set_option maxHeartbeats 3200000 in
theorem right_go_m (p : Option Addr) (cap : Nat) (us : List Qn.Un) (i : Nat) (u : Qn.Un) (kk : Nat) (bu : Qn.Un) (dup res : Bool) (w : World) (hu : us[i]? = some u) (ht : Tab w p us) (h : i < 20) (hnb : u.nm.isEmpty = false) (k1 : (u.kd != 1) = true) (k2 : (u.kd != 2) = false) (hv : decide (Rt.Ok u.fac.1 u.fac.2) = true) (h1 : 1 ≤ u.fac.1) (hbk : u.base = (kk : Int)) (hkl : kk < us.length) (hq : us[kk]? = some bu) (hd : (us.take i).any (fun v => v.nm == u.nm) = dup) (hres : (dup = true → res = false) ∧ (dup = false → res = ((bu.base == (kk : Int)) && (bu.kd == u.kd) && (((kk : Int) != (i : Int)) || ((u.fac.1 == 1) && (u.fac.2 == 1)))))) :
    Calls Try.prog 20 #[.slice p us.length cap, .int .i64 i] w fun e w' => e = .returned (.bool (res)) ∧ Below w.heap.size w w' := by
  have HV := Lib.hid hv
  have HQ := Lib.hid hq
  have HD := Lib.hid hd
  have HRES := Lib.hid hres
  clear hv hq hd hres
  obtain ⟨ub, uo, rfl, ⟨c0, c1, c2, c3, c4⟩, _, hub⟩ := ht.at hu
  have HT0 := Lib.hid ht
  rw [hbk] at c2
  have hlt := (List.getElem?_eq_some_iff.1 hu).1
  have hi0 : (0 : Int) ≤ (i : Int) := by omega
  have hi1 : (i : Int) < (us.length : Int) := by omega
  have hkl0 : (0 : Int) ≤ (kk : Int) := by omega
  have hkl1 : (kk : Int) < (us.length : Int) := by omega
  clear hu ht hbk
  go_enter Try.func20, Try.ntmps20
  go_wp2_with fail
  refine (rvalid_dec u.fac.1 u.fac.2 _).mono ?_
  rintro e w1 ⟨rfl, hb1⟩
  rw [HV.out]
  have hz1 := hb1.size
  (try simp at hz1)
  have bb1 : Below w.heap.size w w1 := (by repeat (first | exact Below.refl _ _ | assumption | refine below_drewN ?_ _ | refine Below.setCell ?_ (by first | (simp; done) | (simp; omega)) _ | refine Below.alloc ?_ (by first | (simp; done) | (simp; omega) | omega) _ | refine Below.drew ?_ | refine Below.trans ?_ (Below.mono (by assumption) (by first | (simp; done) | (simp; omega) | omega))))
  have be1 : Below w.heap.size w w1 := bb1
  have c1_u_0 : w1.cell? ⟨w.heap.size, 0, none⟩ = some (.string ⟨u.nm.toArray⟩) := cell_keep hb1 (by go_simp)
  have c1_u_1 : w1.cell? ⟨w.heap.size, 1, none⟩ = some (.int .i64 u.kd) := cell_keep hb1 (by go_simp)
  have c1_u_2 : w1.cell? ⟨w.heap.size, 2, none⟩ = some (.int .i64 kk) := cell_keep hb1 (by go_simp)
  have c1_u_3 : w1.cell? ⟨w.heap.size, 3, none⟩ = some (.int .i64 u.fac.1) := cell_keep hb1 (by go_simp)
  have c1_u_4 : w1.cell? ⟨w.heap.size, 4, none⟩ = some (.int .i64 u.fac.2) := cell_keep hb1 (by go_simp)
  have l1_u : w.heap.size < w1.heap.size := by omega
  have m1_u : w.heap.size < w1.heap.size + 1 := by omega
  have HT1 := Lib.hid (HT0.out.below bb1)
  have BE1 := Lib.hid be1
  clear be1 bb1 hb1 HT0
  have HBASE := BE1
  go_wp2_with fail
  go_loopw [6] (fun s wr => ∃ j : Nat, s = .int .i64 j ∧ j ≤ i ∧ ((us.take i).drop j).any (fun v => v.nm == u.nm) = dup ∧ Below w1.heap.size w1 wr) (fun s _ => i - (intOf s).toNat)
  case atStart => exact ⟨0, rfl, Nat.zero_le _, HD.out, Below.refl _ _⟩
  case round =>
    obtain ⟨j, rfl, hj, hd, hbw⟩ := hrel
    have HDJ := Lib.hid hd
    have HBW := Lib.hid hbw
    have d0 := cell_keep HBW.out c1_u_0
    have d1 := cell_keep HBW.out c1_u_1
    have d2 := cell_keep HBW.out c1_u_2
    have d3 := cell_keep HBW.out c1_u_3
    have d4 := cell_keep HBW.out c1_u_4
    have hlu : w.heap.size < wr.heap.size := World.block_lt_of_cell? wr _ d0
    have hlu2 : w.heap.size < wr.heap.size + 1 := by omega
    clear hd hbw
    by_cases hji : j < i
    · have hjl : j < us.length := by omega
      have hw0 := List.getElem?_eq_getElem hjl
      generalize us[j] = v at hw0
      obtain ⟨_, _, hpe, ⟨e0, _, _, _, _⟩, _, hvl⟩ := (HT1.out.below HBW.out).at hw0
      cases hpe
      have hj0 : (0 : Int) ≤ (j : Int) := by omega
      have hj1 : (j : Int) < (us.length : Int) := by omega
      have hdj := HDJ.out
      rw [any_step hji hw0] at hdj
      cases hnm : (v.nm == u.nm)
      · rw [hnm, Bool.false_or] at hdj
        have HN := Lib.hid hdj
        clear hdj hw0
        go_wp2_with fail
        go_quiet (fail)
        go_wp2_with fail
        go_roundw
        case rel => exact ⟨j + 1, by simp, hji, HN.out, below_drewN HBW.out _⟩
        case measure =>
          simp only [intOf]
          exact meas_lt hji
      · rw [hnm, Bool.true_or] at hdj
        obtain rfl : true = dup := hdj
        obtain rfl : res = false := HRES.out.1 rfl
        clear hw0
        go_wp2_with fail
        go_quiet (fail)
        go_wp2_with fail
        go_ret
        exact ⟨rfl, HBASE.out.trans (below_drewN HBW.out _ |>.mono HBASE.out.size)⟩
    · obtain rfl : j = i := by omega
      have hdj := HDJ.out
      rw [any_done] at hdj
      obtain rfl : false = dup := hdj
      have HRS := Lib.hid (HRES.out.2 rfl)
      obtain ⟨_, _, hpe, ⟨f0, f1, f2, f3, f4⟩, _, hvl⟩ := (HT1.out.below HBW.out).at HQ.out
      cases hpe
      have hk0 : (0 : Int) ≤ (kk : Int) := by omega
      have hk1 : (kk : Int) < (us.length : Int) := by omega
      have hubr := World.block_lt_of_cell? wr _ f0
      clear hlt
      cases hb1 : (bu.base == (kk : Int))
      · obtain rfl : res = false := by rw [HRS.out, hb1]; simp
        go_wp2_with fail
        go_ret
        exact ⟨rfl, HBASE.out.trans ((HBW.out.trans ((show Below wr.heap.size wr _ from (by repeat (first | exact Below.refl _ _ | assumption | refine below_drewN ?_ _ | refine Below.setCell ?_ (by first | (simp; done) | (simp; omega)) _ | refine Below.alloc ?_ (by first | (simp; done) | (simp; omega) | omega) _ | refine Below.drew ?_ | refine Below.trans ?_ (Below.mono (by assumption) (by first | (simp; done) | (simp; omega) | omega))))).mono HBW.out.size)).mono HBASE.out.size)⟩
      cases hb2 : (bu.kd == u.kd)
      · obtain rfl : res = false := by rw [HRS.out, hb1, hb2]; simp
        go_wp2_with fail
        go_ret
        exact ⟨rfl, HBASE.out.trans ((HBW.out.trans ((show Below wr.heap.size wr _ from (by repeat (first | exact Below.refl _ _ | assumption | refine below_drewN ?_ _ | refine Below.setCell ?_ (by first | (simp; done) | (simp; omega)) _ | refine Below.alloc ?_ (by first | (simp; done) | (simp; omega) | omega) _ | refine Below.drew ?_ | refine Below.trans ?_ (Below.mono (by assumption) (by first | (simp; done) | (simp; omega) | omega))))).mono HBW.out.size)).mono HBASE.out.size)⟩
      cases hb3 : ((kk : Int) != (j : Int))
      rotate_left
      · obtain rfl : res = true := by rw [HRS.out, hb1, hb2, hb3]; simp
        go_wp2_with fail
        go_ret
        exact ⟨rfl, HBASE.out.trans ((HBW.out.trans ((show Below wr.heap.size wr _ from (by repeat (first | exact Below.refl _ _ | assumption | refine below_drewN ?_ _ | refine Below.setCell ?_ (by first | (simp; done) | (simp; omega)) _ | refine Below.alloc ?_ (by first | (simp; done) | (simp; omega) | omega) _ | refine Below.drew ?_ | refine Below.trans ?_ (Below.mono (by assumption) (by first | (simp; done) | (simp; omega) | omega))))).mono HBW.out.size)).mono HBASE.out.size)⟩
      cases hb4 : (u.fac.1 == 1)
      · obtain rfl : res = false := by rw [HRS.out, hb1, hb2, hb3, hb4]; simp
        go_wp2_with fail
        go_ret
        exact ⟨rfl, HBASE.out.trans ((HBW.out.trans ((show Below wr.heap.size wr _ from (by repeat (first | exact Below.refl _ _ | assumption | refine below_drewN ?_ _ | refine Below.setCell ?_ (by first | (simp; done) | (simp; omega)) _ | refine Below.alloc ?_ (by first | (simp; done) | (simp; omega) | omega) _ | refine Below.drew ?_ | refine Below.trans ?_ (Below.mono (by assumption) (by first | (simp; done) | (simp; omega) | omega))))).mono HBW.out.size)).mono HBASE.out.size)⟩
      cases hb5 : (u.fac.2 == 1)
      · obtain rfl : res = false := by rw [HRS.out, hb1, hb2, hb3, hb4, hb5]; simp
        go_wp2_with fail
        go_ret
        exact ⟨rfl, HBASE.out.trans ((HBW.out.trans ((show Below wr.heap.size wr _ from (by repeat (first | exact Below.refl _ _ | assumption | refine below_drewN ?_ _ | refine Below.setCell ?_ (by first | (simp; done) | (simp; omega)) _ | refine Below.alloc ?_ (by first | (simp; done) | (simp; omega) | omega) _ | refine Below.drew ?_ | refine Below.trans ?_ (Below.mono (by assumption) (by first | (simp; done) | (simp; omega) | omega))))).mono HBW.out.size)).mono HBASE.out.size)⟩
      · obtain rfl : res = true := by rw [HRS.out, hb1, hb2, hb3, hb4, hb5]; simp
        go_wp2_with fail
        go_ret
        exact ⟨rfl, HBASE.out.trans ((HBW.out.trans ((show Below wr.heap.size wr _ from (by repeat (first | exact Below.refl _ _ | assumption | refine below_drewN ?_ _ | refine Below.setCell ?_ (by first | (simp; done) | (simp; omega)) _ | refine Below.alloc ?_ (by first | (simp; done) | (simp; omega) | omega) _ | refine Below.drew ?_ | refine Below.trans ?_ (Below.mono (by assumption) (by first | (simp; done) | (simp; omega) | omega))))).mono HBW.out.size)).mono HBASE.out.size)⟩
end Go.Proofs.Ytpdknjbhnelidaa

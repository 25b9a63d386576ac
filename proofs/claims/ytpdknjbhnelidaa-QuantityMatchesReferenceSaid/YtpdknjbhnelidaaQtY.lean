/- The reference's scaled: the divisors removed pair by pair. -/
import Derived.Test.YtpdknjbhnelidaaQtX
namespace Go.Proofs.Ytpdknjbhnelidaa
open Go.RowKit

theorem rgcd_g (x y g : Nat) (w : World) (k : Nat) (hx : x ≤ 18446744073709551615) (hy : y ≤ 18446744073709551615) (hg : Nat.gcd x y = g) :
    Calls Try.prog 41 #[.int .u64 x, .int .u64 y] (w.drewN k) fun e w' => e = .returned (.int .u64 (g : Nat)) ∧ ∃ m, w' = w.drewN m := by
  rw [← hg]
  exact rgcd_q x y w k hx hy
/-- three numbers that fill a block -/
def A3 (w : World) (g : Nat) (u : Nat → Int) : Prop := ∃ t, w.heap[g]? = some (.cells #[.int .i64 (u 0), .int .i64 (u 1), .int .i64 (u 2)] t (0, 0))
theorem A3.get {w : World} {g : Nat} {u : Nat → Int} (h : A3 w g u) {i : Nat} (hi : i < 3) : w.cell? ⟨g, i, none⟩ = some (.int .i64 (u i)) ∧ w.frozen? ⟨g, i, none⟩ = false := by
  obtain ⟨t, h⟩ := h
  rcases (by omega : i = 0 ∨ i = 1 ∨ i = 2) with rfl | rfl | rfl <;> exact ⟨by simp [World.cell?, h], by simp [World.frozen?, h]⟩
theorem A3.lt {w : World} {g : Nat} {u : Nat → Int} (h : A3 w g u) : g < w.heap.size := World.block_lt_of_cell? w _ (h.get (i := 0) (by omega)).1
theorem A3.set {w : World} {g : Nat} {u : Nat → Int} (h : A3 w g u) {i : Nat} (hi : i < 3) (x : Int) : A3 (w.setCell ⟨g, i, none⟩ (.int .i64 x)) g (Qn.put u i x) := by
  obtain ⟨t, h⟩ := h
  refine ⟨t, ?_⟩
  rw [setCell_row h]
  rcases (by omega : i = 0 ∨ i = 1 ∨ i = 2) with rfl | rfl | rfl <;> simp [Qn.put]
theorem A3.same {w w' : World} {g : Nat} {u : Nat → Int} (h : A3 w g u) (hb : w'.heap[g]? = w.heap[g]?) : A3 w' g u := by
  obtain ⟨t, h⟩ := h
  exact ⟨t, hb.trans h⟩
theorem times_yes {a b c lim : Int} (h : ((a * b * c).natAbs : Int) ≤ lim) : timesS a b c lim = (a * b * c, true) := if_pos h
theorem times_no {a b c lim : Int} (h : ¬ ((a * b * c).natAbs : Int) ≤ lim) : timesS a b c lim = (0, false) := if_neg h
theorem exact_tdiv {a b : Int} (h : b ∣ a) : a.tdiv b = a / b := Int.tdiv_eq_ediv_of_dvd h
/-- the state of the two loops -/
structure St (w : World) (n6 n8 n9 : Nat) (N D : Int) (m : Nat) (wr : World) (u d : Nat → Int) : Prop where
  up : A3 wr n8 u
  dn : A3 wr n9 d
  inv : Qn.Inv N D m u d
  bd : ∀ j, j < 3 → (u j).natAbs ≤ 1000000000000 ∧ d j ≤ 1000000000000
  res : wr.heap[n6]? = some (.cells #[.int .i64 0, .int .i64 0] 31 (0, 0))
  bel : Below w.heap.size w wr
theorem St.drew {w wr : World} {n6 n8 n9 : Nat} {N D : Int} {m : Nat} {u d : Nat → Int} (h : St w n6 n8 n9 N D m wr u d) (q : Nat) : St w n6 n8 n9 N D m (wr.drewN q) u d :=
  ⟨h.up.same (drewN_row _ _ _), h.dn.same (drewN_row _ _ _), h.inv, h.bd, (drewN_row _ _ _).trans h.res, below_drewN h.bel _⟩
theorem St.step {w wr : World} {n6 n8 n9 : Nat} {N D x y : Int} {i k : Nat} {u d : Nat → Int} (h : St w n6 n8 n9 N D (3 * i + k) wr u d) (hi : i < 3) (hk : k < 3) (h6 : n6 < n8) (h8 : n8 < n9) (hw : w.heap.size ≤ n6)
    (hx : x = u i / Qn.cd (u i) (d k)) (hy : y = d k / Qn.cd (u i) (d k)) : St w n6 n8 n9 N D (3 * i + k + 1) ((wr.setCell ⟨n8, i, none⟩ (.int .i64 x)).setCell ⟨n9, k, none⟩ (.int .i64 y)) (Qn.put u i x) (Qn.put d k y) := by
  have hd := h.inv.dpos k hk
  obtain ⟨g1, g2, g3, g4, g5, g6, g7, g8⟩ := Qn.cd_spec (x := u i) hd
  have b1 := h.bd i hi
  have b2 := h.bd k hk
  refine ⟨?_, ?_, ?_, fun j hj => ⟨?_, ?_⟩, ?_, ?_⟩
  · exact (h.up.set hi x).same (setCell_apart (by omega))
  · exact (h.dn.same (setCell_apart (by omega))).set hk y
  · rw [hx, hy]; exact h.inv.step hi hk
  · by_cases e : j = i
    · subst e
      rw [Qn.put_at, hx]
      by_cases z : u j = 0
      · rw [z, Int.zero_ediv]; decide
      · exact Nat.le_trans (Nat.le_of_dvd (Int.natAbs_pos.2 z) g7) b1.1
    · rw [Qn.put_ne _ _ e]; exact (h.bd j hj).1
  · by_cases e : j = k
    · subst e
      rw [Qn.put_at, hy]
      have := Nat.le_of_dvd (Int.natAbs_pos.2 (Int.ne_of_gt hd)) g8
      omega
    · rw [Qn.put_ne _ _ e]; exact (h.bd j hj).2
  · rw [setCell_apart (by omega), setCell_apart (by omega)]; exact h.res
  · exact (h.bel.setCell (by simp; omega) _).setCell (by simp; omega) _
set_option maxRecDepth 100000 in
set_option maxHeartbeats 1600000 in
theorem scaled_walk (v f g : Qn.R) (w : World) (hv : Qn.RO v) (hf : Qn.Fac f) (hg : Qn.Fac g) :
    Calls Try.prog 26 #[.agg #[.int .i64 v.1, .int .i64 v.2], .agg #[.int .i64 f.1, .int .i64 f.2], .agg #[.int .i64 g.1, .int .i64 g.2]] w fun e w' => e = .returned (RV (Qn.conv v f g)) ∧ Below w.heap.size w w' := by
  have HRV := Lib.hid hv
  have HRF := Lib.hid hf
  have HRG := Lib.hid hg
  clear hv hf hg
  go_enter Try.func26, Try.ntmps26
  go_upto_region 3 with fail
  obtain ⟨wz, hwz⟩ : ∃ W, W = ((((((w.alloc (.cells #[.int .i64 v.1, .int .i64 v.2] 31)).alloc (.cells #[.int .i64 f.1, .int .i64 f.2] 31)).alloc (.cells #[.int .i64 g.1, .int .i64 g.2] 31)).alloc (.cells #[.int .i64 0, .int .i64 0] 31)).alloc (.cells #[.int .i64 v.1, .int .i64 f.1, .int .i64 g.2] 67)).alloc (.cells #[.int .i64 v.2, .int .i64 f.2, .int .i64 g.1] 67)) := ⟨_, rfl⟩
  obtain ⟨n9, h9⟩ : ∃ n, n = w.heap.size + 1 + 1 + 1 + 1 + 1 := ⟨_, rfl⟩
  obtain ⟨n8, h8⟩ : ∃ n, n = w.heap.size + 1 + 1 + 1 + 1 := ⟨_, rfl⟩
  obtain ⟨n6, h6⟩ : ∃ n, n = w.heap.size + 1 + 1 + 1 := ⟨_, rfl⟩
  rw [← hwz, ← h9, ← h8, ← h6]
  have hst : St w n6 n8 n9 (v.1 * f.1 * g.2) (v.2 * f.2 * g.1) 0 wz (fun j => if j = 0 then v.1 else if j = 1 then f.1 else g.2) (fun j => if j = 0 then v.2 else if j = 1 then f.2 else g.1) := by
    have e1 := HRV.out
    have e2 := HRF.out
    have e3 := HRG.out
    obtain ⟨p1, p2, p3, p4, _⟩ := e1
    obtain ⟨⟨r1, r2, r3, r4, _⟩, r5⟩ := e2
    obtain ⟨⟨s1, s2, s3, s4, _⟩, s5⟩ := e3
    refine ⟨⟨67, ?_⟩, ⟨67, ?_⟩, Qn.Inv.start HRV.out HRF.out HRG.out _ _ rfl rfl rfl rfl rfl rfl, fun j hj => ?_, ?_, ?_⟩
    · rw [hwz]
      exact (((Below.refl _ _).alloc (Nat.le_refl _) _ : Below _ _ _).block n8 (by rw [h8]; simp)).trans (heap_new (by rw [h8]; simp))
    · rw [hwz]
      exact heap_new (by rw [h9]; simp)
    · rcases (by omega : j = 0 ∨ j = 1 ∨ j = 2) with rfl | rfl | rfl <;> simp <;> omega
    · rw [hwz]
      exact (((Below.refl _ _).alloc (Nat.le_refl _) _ : Below _ _ _).block n6 (by rw [h6]; (first | (simp; done) | (simp; omega)))).trans ((((Below.refl _ _).alloc (Nat.le_refl _) _ : Below _ _ _).block n6 (by rw [h6]; simp)).trans (heap_new (by rw [h6]; simp)))
    · rw [hwz]; exact (by repeat (first | exact Below.refl _ _ | assumption | refine below_drewN ?_ _ | refine Below.setCell ?_ (by first | (simp; done) | (simp; omega)) _ | refine Below.alloc ?_ (by first | (simp; done) | (simp; omega) | omega) _ | refine Below.drew ?_ | refine Below.trans ?_ (Below.mono (by assumption) (by first | (simp; done) | (simp; omega) | omega))))
  have hn68 : n6 < n8 := by omega
  have hn89 : n8 < n9 := by omega
  have hnw : w.heap.size ≤ n6 := by omega
  have HST := Lib.hid hst
  clear hst hwz h9 h8 h6
  go_wp2_with fail
  go_loopw [10] (fun s wr => ∃ (i : Nat) (u d : Nat → Int), s = .int .i64 i ∧ i ≤ 3 ∧ St w n6 n8 n9 (v.1 * f.1 * g.2) (v.2 * f.2 * g.1) (3 * i) wr u d) (fun s _ => 3 - (intOf s).toNat)
  case atStart => exact ⟨0, _, _, rfl, by omega, HST.out⟩
  case round =>
    obtain ⟨i, u, d, rfl, hi, hst⟩ := hrel
    have HS0 := Lib.hid hst
    clear hst
    by_cases hi3 : i < 3
    · go_wp2_with fail
      go_loopw [11] (fun s wy => ∃ (k : Nat) (u d : Nat → Int), s = .int .i64 k ∧ k ≤ 3 ∧ St w n6 n8 n9 (v.1 * f.1 * g.2) (v.2 * f.2 * g.1) (3 * i + k) wy u d) (fun s _ => 3 - (intOf s).toNat)
      case atStart => exact ⟨0, u, d, rfl, by omega, HS0.out⟩
      case round =>
        obtain ⟨k, u, d, rfl, hk, hst⟩ := hrel
        have HS1 := Lib.hid hst
        clear hst
        by_cases hk3 : k < 3
        · obtain ⟨c0, c1⟩ := HS1.out.up.get hi3
          obtain ⟨d0, d1⟩ := HS1.out.dn.get hk3
          have hl8 := HS1.out.up.lt
          have hl9 := HS1.out.dn.lt
          have hd := HS1.out.inv.dpos k hk3
          obtain ⟨b1, _⟩ := HS1.out.bd i hi3
          obtain ⟨_, b2⟩ := HS1.out.bd k hk3
          obtain ⟨g1, g2, g3, g4, g5, g6, g7, g8⟩ := Qn.cd_spec (x := u i) hd
          obtain ⟨xx, hxx⟩ : ∃ x, x = u i / Qn.cd (u i) (d k) := ⟨_, rfl⟩
          obtain ⟨yy, hyy⟩ : ∃ y, y = d k / Qn.cd (u i) (d k) := ⟨_, rfl⟩
          have HSTEP := Lib.hid (fun q => (HS1.out.drew q).step hi3 hk3 hn68 hn89 hnw hxx hyy)
          obtain ⟨dk, hdk⟩ : ∃ dk : Nat, d k = dk := ⟨(d k).toNat, by omega⟩
          obtain ⟨gg, hgg⟩ : ∃ gg : Nat, Nat.gcd (u i).natAbs dk = gg := ⟨_, rfl⟩
          have hcd : Qn.cd (u i) (d k) = (gg : Int) := by
            unfold Qn.cd
            rw [hdk, Int.natAbs_natCast, hgg]
          have htd : (u i).tdiv (gg : Int) = xx := by rw [hxx, hcd]; exact exact_tdiv ⟨_, by rw [← hcd, Int.mul_comm]; exact g2.symm⟩
          have hdd : (dk : Int) / (gg : Int) = yy := by rw [hyy, hcd, hdk]
          have hgp : 0 < gg := by rw [hcd] at g1; omega
          have hgl : gg ≤ dk := by rw [← hgg]; exact Nat.gcd_le_right _ (by omega)
          have hx1 : xx.natAbs ≤ (u i).natAbs := by
            rw [hxx]
            by_cases z : u i = 0
            · rw [z, Int.zero_ediv]; decide
            · exact Nat.le_of_dvd (Int.natAbs_pos.2 z) g7
          have hy1 : yy.natAbs ≤ (d k).natAbs := by rw [hyy]; exact Nat.le_of_dvd (Int.natAbs_pos.2 (Int.ne_of_gt hd)) g8
          have hy2 : -9223372036854775808 ≤ yy := by omega
          have hy3 : yy ≤ 9223372036854775807 := by omega
          have hg0 : ¬ (gg : Int) = 0 := by omega
          have hg00 : ¬ gg = 0 := by omega
          rw [hdk] at d0 b2
          have HGG := Lib.hid hgg
          generalize u i = ui at c0 b1 htd hx1 HGG
          have hx2 : -9223372036854775808 ≤ xx := by omega
          have hx3 : xx ≤ 9223372036854775807 := by omega
          clear hy1 g1 g2 g3 g4 g5 g6 g7 g8 hcd hgg hdk hd hxx hyy
          go_wp2_with fail
          go_quiet (first | exact size4_q _ _ _ (by omega) (by omega) | exact rgcd_g _ _ _ _ _ (by omega) (by omega) HGG.out)
          go_wp2_with fail
          go_roundw
          case rel => exact ⟨k + 1, _, _, rfl, by omega, HSTEP.out _⟩
          case measure =>
            simp only [intOf]
            omega
        · obtain rfl : k = 3 := by omega
          go_wp2_with fail
          go_roundw
          case rel => exact ⟨i + 1, u, d, rfl, by omega, by rw [show 3 * (i + 1) = 3 * i + 3 by omega]; exact HS1.out⟩
          case measure =>
            simp only [intOf]
            omega
    · obtain rfl : i = 3 := by omega
      have hst := HS0.out
      obtain ⟨c0, _⟩ := hst.up.get (i := 0) (by omega)
      obtain ⟨c1, _⟩ := hst.up.get (i := 1) (by omega)
      obtain ⟨c2, _⟩ := hst.up.get (i := 2) (by omega)
      obtain ⟨d0, _⟩ := hst.dn.get (i := 0) (by omega)
      obtain ⟨d1, _⟩ := hst.dn.get (i := 1) (by omega)
      obtain ⟨d2, _⟩ := hst.dn.get (i := 2) (by omega)
      have p1 := hst.inv.upos
      have q0 := hst.inv.dpos 0 (by omega)
      have q1 := hst.inv.dpos 1 (by omega)
      have q2 := hst.inv.dpos 2 (by omega)
      have b0 := hst.bd 0 (by omega)
      have b1 := hst.bd 1 (by omega)
      have b2 := hst.bd 2 (by omega)
      have HLAST := Lib.hid (hst.inv.last (Qn.conv_ne HRV.out HRF.out HRG.out))
      have hres := hst.res
      have l6 : n6 < wr.heap.size := (Array.getElem?_eq_some_iff.1 hres).1
      have e0 : wr.cell? ⟨n6, 0, none⟩ = some (.int .i64 0) := by simp [World.cell?, hres]
      have e1 : wr.cell? ⟨n6, 1, none⟩ = some (.int .i64 0) := by simp [World.cell?, hres]
      have e2 : wr.frozen? ⟨n6, 0, none⟩ = false := by simp [World.frozen?, hres]
      have e3 : wr.frozen? ⟨n6, 1, none⟩ = false := by simp [World.frozen?, hres]
      have HBW := Lib.hid hst.bel
      clear hst hres
      obtain ⟨uu, huu⟩ : ∃ x, x = u 0 * u 1 * u 2 := ⟨_, rfl⟩
      obtain ⟨dd, hdd⟩ : ∃ x, x = d 0 * d 1 * d 2 := ⟨_, rfl⟩
      obtain ⟨r1, t1, ht1⟩ : ∃ r t, timesS (u 0) (u 1) (u 2) 1000000000000 = (r, t) := ⟨_, _, rfl⟩
      obtain ⟨r2, t2, ht2⟩ : ∃ r t, timesS (d 0) (d 1) (d 2) 1000000 = (r, t) := ⟨_, _, rfl⟩
      have HT1 := Lib.hid ht1
      have HT2 := Lib.hid ht2
      have HUU := Lib.hid huu
      have HDD := Lib.hid hdd
      clear ht1 ht2 huu hdd
      have hc1 := times_any (u 0) (u 1) (u 2) 1000000000000 wr b0.1 p1.1 (by omega) p1.2 (by omega) (by omega) (by omega)
      have hc2 := fun x => times_any (d 0) (d 1) (d 2) 1000000 x (by omega) q1 b1.2 q2 b2.2 (by omega) (by omega)
      rw [HT1.out] at hc1
      simp only [HT2.out] at hc2
      have HC1 := Lib.hid hc1
      have HC2 := Lib.hid hc2
      have hpos : 0 < dd := by rw [HDD.out]; exact Int.mul_pos (Int.mul_pos q0 q1) q2
      clear hc1 hc2 p1 q0 q1 q2 b0 b1 b2
      go_wp2_with fail
      refine HC1.out.mono ?_
      rintro e x1 ⟨rfl, hb1⟩
      simp only [RIB]
      have y0 := cell_keep hb1 d0
      have y1 := cell_keep hb1 d1
      have y2 := cell_keep hb1 d2
      have l61 : n6 < x1.heap.size := by have := hb1.size; omega
      have HB1 := Lib.hid hb1
      clear hb1
      go_wp2_with fail
      refine (HC2.out _).mono ?_
      rintro e x2 ⟨rfl, hb2⟩
      simp only [RIB]
      have HB2 := Lib.hid (HB1.out.trans (hb2.mono HB1.out.size))
      have z0 := cell_keep HB2.out e0
      have z1 := cell_keep HB2.out e1
      have z2 := (HB2.out.frozen (p := ⟨n6, 0, none⟩) l6).trans e2
      have z3 := (HB2.out.frozen (p := ⟨n6, 1, none⟩) l6).trans e3
      have l62 : n6 < x2.heap.size := by have := HB2.out.size; omega
      have HBX := Lib.hid (HBW.out.trans (HB2.out.mono HBW.out.size))
      clear hb2 HC1 HC2 c0 c1 c2 d0 d1 d2 y0 y1 y2 e0 e1 e2 e3 HS0
      by_cases k1 : (uu.natAbs : Int) ≤ 1000000000000
      rotate_left
      · have e := HT1.out
        rw [times_no (by rw [← HUU.out]; exact k1)] at e
        obtain ⟨rfl, rfl⟩ := Prod.mk.inj e
        have HV := Lib.hid (show Qn.conv v f g = (0, 0, 2) from HLAST.out.trans (if_neg (fun k => k1 (by rw [HUU.out]; omega))))
        clear e k1
        go_wp2_with fail
        rw [HV.out]
        refine bodyPost_ret (v := RV (0, 0, 2)) (by simp [results, Try.results26, go_sem, RV, z0, z1]) rfl ⟨rfl, ?_⟩
        exact (HBX.out.setCell (by simp; omega) _).setCell (by simp; omega) _
      by_cases k2 : (dd.natAbs : Int) ≤ 1000000
      rotate_left
      · have e := HT1.out
        rw [times_yes (by rw [← HUU.out]; exact k1)] at e
        obtain ⟨rfl, rfl⟩ := Prod.mk.inj e
        have e' := HT2.out
        rw [times_no (by rw [← HDD.out]; exact k2)] at e'
        obtain ⟨rfl, rfl⟩ := Prod.mk.inj e'
        have HV := Lib.hid (show Qn.conv v f g = (0, 0, 2) from HLAST.out.trans (if_neg (fun k => k2 (by rw [HDD.out] at hpos ⊢; omega))))
        clear e e' k1 k2
        go_wp2_with fail
        rw [HV.out]
        refine bodyPost_ret (v := RV (0, 0, 2)) (by simp [results, Try.results26, go_sem, RV, z0, z1]) rfl ⟨rfl, ?_⟩
        exact (HBX.out.setCell (by simp; omega) _).setCell (by simp; omega) _
      · have e := HT1.out
        rw [times_yes (by rw [← HUU.out]; exact k1), ← HUU.out] at e
        obtain ⟨rfl, rfl⟩ := Prod.mk.inj e
        have e' := HT2.out
        rw [times_yes (by rw [← HDD.out]; exact k2), ← HDD.out] at e'
        obtain ⟨rfl, rfl⟩ := Prod.mk.inj e'
        have hv : Qn.conv v f g = (uu, dd, 0) := by
          refine HLAST.out.trans ?_
          rw [← HUU.out, ← HDD.out, if_pos ⟨by omega, by omega⟩]
        have hm : Rt.mk uu dd = (uu, dd, 0) := Qn.mk_of_val (by omega) (Qn.conv_val HRV.out HRF.out HRG.out hv).1 rfl
        have HV := Lib.hid hv
        have HM := Lib.hid hm
        have m1 : -9223372036854775808 ≤ uu := by omega
        have m2 : uu ≤ 9223372036854775807 := by omega
        have m3 : -9223372036854775808 ≤ dd := by omega
        have m4 : dd ≤ 9223372036854775807 := by omega
        clear e e' k1 k2 hv hm
        go_wp2_with fail
        refine (rmake_any uu dd _ m1 m2 m3 m4).mono ?_
        rintro e x3 ⟨rfl, hb3⟩
        rw [HM.out]
        simp only [RV]
        have v0 := cell_keep hb3 z0
        have v1 := cell_keep hb3 z1
        have v2 := (hb3.frozen (p := ⟨n6, 0, none⟩) l62).trans z2
        have v3 := (hb3.frozen (p := ⟨n6, 1, none⟩) l62).trans z3
        have l63 : n6 < x3.heap.size := by have := hb3.size; omega
        have HB3 := Lib.hid (HBX.out.trans (hb3.mono HBX.out.size))
        clear hb3
        go_wp2_with fail
        rw [HV.out]
        refine bodyPost_ret (v := RV (uu, dd, 0)) (by simp [results, Try.results26, go_sem, RV, v0, v1]) rfl ⟨rfl, ?_⟩
        exact (HB3.out.setCell (by simp; omega) _).setCell (by simp; omega) _
end Go.Proofs.Ytpdknjbhnelidaa

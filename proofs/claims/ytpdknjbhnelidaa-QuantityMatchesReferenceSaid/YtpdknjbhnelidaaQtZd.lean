/- The reference's Sum: the sum. -/
import Derived.Test.YtpdknjbhnelidaaQtZc
namespace Go.Proofs.Ytpdknjbhnelidaa
open Go.RowKit

open Classical in
set_option maxRecDepth 100000 in
set_option maxHeartbeats 3200000 in
theorem rsum_go (p q : Option Addr) (cap capl : Nat) (us : List Qn.Un) (l : List Qn.Am) (k2 : Nat) (u2 : Qn.Un) (vi x0 y0 e0 : Int) (res : Int × Qn.R × Int) (w : World) (ht : Tab w p us) (hl : Amts w q l) (hva : Qn.validS us = (vi, true)) (hu2 : us[k2]? = some u2) (hin2 : Qn.In us k2) (hll : l.length ≤ 1000) (hag : Qn.AllGood us) (ham : ∀ a ∈ l, Qn.May us a) (hoth : l.any (othB us k2) = false) (hf2 : Qn.Fac u2.fac) (hsc : Qn.sumC u2.fac (0, 1) (Qn.vf us l) = (x0, y0, e0)) (hres : res = Qn.amt (k2 : Int) (x0, y0, e0)) :
    Calls Try.prog 13 #[.slice p us.length cap, .slice q l.length capl, .int .i64 k2] w fun e w' => e = .returned (RA res) ∧ Below w.heap.size w w' := by
  have HT0 := Lib.hid ht
  have HL0 := Lib.hid hl
  clear ht hl
  have HVA := Lib.hid hva
  clear hva
  have HUN2 := Lib.hid (show Qn.un us (k2 : Int) = u2 from Option.some.inj (Eq.trans (Eq.symm (show us[k2]? = some (Qn.un us (k2 : Int)) by simpa using Qn.un_get hin2)) hu2))
  have HU2 := Lib.hid hu2
  clear hu2
  have HAG := Lib.hid hag
  clear hag
  have HAM := Lib.hid ham
  clear ham
  have HOTH := Lib.hid hoth
  clear hoth
  have HF2 := Lib.hid hf2
  clear hf2
  have HSC := Lib.hid hsc
  clear hsc
  have HRES := Lib.hid hres
  clear hres
  go_enter Try.func13, Try.ntmps13
  go_wp2_with fail
  have hq : Fr3 (w.alloc (.cells #[.int .i64 0, .int .i64 0, .int .i64 0] 33)) w.heap.size := ⟨by simp, by go_simp, by go_simp, by go_simp⟩
  obtain ⟨w1, hw1⟩ : ∃ W, W = (w.alloc (.cells #[.int .i64 0, .int .i64 0, .int .i64 0] 33)) := ⟨_, rfl⟩
  have bb1 : Below w.heap.size w w1 := by rw [hw1]; exact (by repeat (first | exact Below.refl _ _ | assumption | refine below_drewN ?_ _ | refine Below.setCell ?_ (by first | (simp; done) | (simp; omega)) _ | refine Below.alloc ?_ (by first | (simp; done) | (simp; omega) | omega) _ | refine Below.drew ?_ | refine Below.trans ?_ (Below.mono (by assumption) (by first | (simp; done) | (simp; omega) | omega))))
  have n1_r_0 : w1.cell? ⟨w.heap.size, 0, none⟩ = some (.int .i64 0) := by rw [hw1]; go_simp
  have n1_r_1 : w1.cell? ⟨w.heap.size, 1, none⟩ = some (.int .i64 0) := by rw [hw1]; go_simp
  have n1_r_2 : w1.cell? ⟨w.heap.size, 2, none⟩ = some (.int .i64 0) := by rw [hw1]; go_simp
  rw [← hw1]
  rw [← hw1] at hq
  have hz1 := bb1.size
  (try simp at hz1)
  clear hw1
  have be1 : Below w.heap.size w w1 := bb1
  have c1_r_0 : w1.cell? ⟨w.heap.size, 0, none⟩ = some (.int .i64 0) := n1_r_0
  have c1_r_1 : w1.cell? ⟨w.heap.size, 1, none⟩ = some (.int .i64 0) := n1_r_1
  have c1_r_2 : w1.cell? ⟨w.heap.size, 2, none⟩ = some (.int .i64 0) := n1_r_2
  have l1_r : w.heap.size < w1.heap.size := World.block_lt_of_cell? w1 _ c1_r_0
  have m1_r : w.heap.size < w1.heap.size + 1 := by omega
  have HT1 := Lib.hid (HT0.out.below bb1)
  have HL1 := Lib.hid (HL0.out.below bb1)
  have BE1 := Lib.hid be1
  clear be1 bb1 HT0 HL0
  have HFR1 := Lib.hid hq
  clear hq
  skip
  refine (rqvalid_any p cap us _ (HT1.out.below (by repeat (first | exact Below.refl _ _ | assumption | refine below_drewN ?_ _ | refine Below.setCell ?_ (by first | (simp; done) | (simp; omega)) _ | refine Below.alloc ?_ (by first | (simp; done) | (simp; omega) | omega) _ | refine Below.drew ?_ | refine Below.trans ?_ (Below.mono (by assumption) (by first | (simp; done) | (simp; omega) | omega)))))).mono ?_
  rintro e w2 ⟨rfl, hb2⟩
  rw [HVA.out]
  simp only [RIB]
  have hz2 := hb2.size
  (try simp at hz2)
  have bb2 : Below w1.heap.size w1 w2 := (by repeat (first | exact Below.refl _ _ | assumption | refine below_drewN ?_ _ | refine Below.setCell ?_ (by first | (simp; done) | (simp; omega)) _ | refine Below.alloc ?_ (by first | (simp; done) | (simp; omega) | omega) _ | refine Below.drew ?_ | refine Below.trans ?_ (Below.mono (by assumption) (by first | (simp; done) | (simp; omega) | omega))))
  have be2 : Below w.heap.size w w2 := BE1.out.trans (bb2.mono BE1.out.size)
  have c2_r_0 : w2.cell? ⟨w.heap.size, 0, none⟩ = some (.int .i64 0) := cell_keep bb2 c1_r_0
  have c2_r_1 : w2.cell? ⟨w.heap.size, 1, none⟩ = some (.int .i64 0) := cell_keep bb2 c1_r_1
  have c2_r_2 : w2.cell? ⟨w.heap.size, 2, none⟩ = some (.int .i64 0) := cell_keep bb2 c1_r_2
  have l2_r : w.heap.size < w2.heap.size := by omega
  have m2_r : w.heap.size < w2.heap.size + 1 := by omega
  have HT2 := Lib.hid (HT1.out.below bb2)
  have HL2 := Lib.hid (HL1.out.below bb2)
  have HFR2 := Lib.hid (HFR1.out.below bb2)
  have BE2 := Lib.hid be2
  clear be2 bb2 hb2 BE1 c1_r_0 c1_r_1 c1_r_2 l1_r m1_r HT1 HL1 HFR1
  have hk20 : (0 : Int) ≤ (k2 : Int) := by omega
  have hk21 : (k2 : Int) < (us.length : Int) := by have := (List.getElem?_eq_some_iff.1 HU2.out).1; omega
  have hk22 : decide ((k2 : Int) < 0) = false := decide_eq_false (by omega)
  have hk23 : decide (us.length ≤ k2) = false := decide_eq_false (by omega)
  go_wp2_with fail
  go_loopw [10, 11] (fun sb si wr => ∃ (k : Nat) (ob : Bool), sb = .bool ob ∧ si = .int .i64 k ∧ k ≤ l.length ∧ (∀ x ∈ l.take k, Qn.May us x) ∧ ob = (l.take k).any (othB us k2) ∧ Below w2.heap.size w2 wr) (fun _ si _ => l.length - (intOf si).toNat)
  case atStart => exact ⟨0, false, rfl, rfl, Nat.zero_le _, fun x hx => by simp at hx, by simp, Below.refl _ _⟩
  case round =>
    obtain ⟨k, ob, rfl, rfl, hk, hmay, hob, hbw⟩ := hrel
    have HMAY := Lib.hid hmay
    have HOB := Lib.hid hob
    have HBW := Lib.hid hbw
    have r0 := cell_keep hbw c2_r_0
    have r1 := cell_keep hbw c2_r_1
    have r2 := cell_keep hbw c2_r_2
    have hfr := HFR2.out.below hbw
    have HFR := Lib.hid hfr
    have hlr : w.heap.size < wr.heap.size := hfr.1
    have HBE := Lib.hid (BE2.out.trans (hbw.mono BE2.out.size))
    clear hmay hob hbw hfr c2_r_0 c2_r_1 c2_r_2
    by_cases hlt : k < l.length
    · have hu : l[k]? = some l[k] := List.getElem?_eq_getElem hlt
      generalize l[k] = a at hu
      have hi0 : (0 : Int) ≤ (k : Int) := by omega
      have hi1 : (k : Int) < (l.length : Int) := by omega
      have HU := Lib.hid hu
      clear hu
      have hm := HAM.out a (List.mem_of_getElem? HU.out)
      have HM := Lib.hid (decide_eq_true hm)
      have HMY := Lib.hid hm
      obtain ⟨k1, hk1⟩ : ∃ k1 : Nat, a.1 = k1 := ⟨a.1.toNat, by have := hm.1.1; omega⟩
      have HU1 := Lib.hid (show us[k1]? = some (Qn.un us a.1) by have := Qn.un_get hm.1; rw [hk1] at this ⊢; simpa using this)
      have hj1 : (k1 : Int) < (us.length : Int) := by have := hm.1.2; omega
      have hj0 : (0 : Int) ≤ (k1 : Int) := by omega
      clear hm
      obtain ⟨bl, ol, hqe, ⟨a0, a1, a2⟩, _, hbl⟩ := (HL2.out.below HBW.out).at HU.out
      subst hqe
      rw [hk1] at a0
      have HAT := Lib.hid (HT2.out.below HBW.out)
      go_wp2_with fail
      have hAV : (Value.agg #[.int .i64 (k1 : Int), .int .i64 a.2.1, .int .i64 a.2.2]) = .agg #[.int .i64 a.1, .int .i64 a.2.1, .int .i64 a.2.2] := by rw [hk1]
      try rw [hAV]
      refine (rmay_any p cap us a _).mono ?_
      rintro e w9 ⟨rfl, hb9⟩
      rw [HM.out]
      have z0 := cell_keep hb9 a0
      have z1 := cell_keep hb9 a1
      have z2 := cell_keep hb9 a2
      have hbl9 : bl < w9.heap.size := Nat.lt_of_lt_of_le hbl hb9.size
      obtain ⟨ub, uo, hpe, ⟨_, _, e2, e3, e4⟩, _, hub⟩ := (HAT.out.below hb9).at HU1.out
      subst hpe
      obtain ⟨_, _, hpe, ⟨_, _, g2, g3, g4⟩, _, _⟩ := (HAT.out.below hb9).at HU2.out
      cases hpe
      have HB9 := Lib.hid (HBW.out.trans (hb9.mono HBW.out.size))
      have hun2 : Qn.un us (k2 : Int) = u2 := HUN2.out
      have HO := Lib.hid (show othB us k2 a = ((Qn.un us a.1).base != u2.base) by unfold othB; rw [hun2])
      clear hb9 a0 a1 a2 r0 r1 r2 hun2 hAV
      cases hob9 : (l.take k).any (othB us k2) with
      | true =>
        exfalso
        obtain ⟨x, hx, hy⟩ := List.any_eq_true.1 hob9
        have := List.any_eq_false.1 HOTH.out x (List.mem_of_mem_take hx)
        exact this hy
      | false =>
        have hobf : ob = false := by rw [HOB.out, hob9]
        subst hobf
        go_wp2_with fail
        go_quiet (fail)
        go_wp2_with fail
        go_roundw
        case rel => exact ⟨k + 1, _, rfl, rfl, hlt, take_may HMAY.out HU.out HMY.out, by have q := take_any (f := othB us k2) HOB.out HU.out; rw [HO.out, Bool.false_or] at q; try rw [hk1] at q; first | exact q | simpa using q, below_drewN HB9.out _⟩
        case measure => simp only [intOf]; exact meas_lt hlt
    · obtain rfl : k = l.length := by omega
      have ho : ob = false := by rw [HOB.out, List.take_length]; exact HOTH.out
      subst ho
      obtain ⟨wb, rfl⟩ : ∃ W, W = wr := ⟨_, rfl⟩
      have HTb := Lib.hid (HT2.out.below HBW.out)
      have HLb := Lib.hid (HL2.out.below HBW.out)
      have HLWB := Lib.hid hlr
      clear HOB HMAY HBW
      go_wp2_with fail
      go_loopw [13] (fun si wr => ∃ (k : Nat) (s : Qn.R), si = .int .i64 k ∧ k ≤ l.length ∧ Qn.RO s ∧ wr.cell? ⟨wb.heap.size, 0, none⟩ = some (.int .i64 s.1) ∧ wr.cell? ⟨wb.heap.size, 1, none⟩ = some (.int .i64 s.2) ∧ wr.frozen? ⟨wb.heap.size, 0, none⟩ = false ∧ wr.frozen? ⟨wb.heap.size, 1, none⟩ = false ∧ Below wb.heap.size wb wr ∧ Qn.sumC u2.fac s (Qn.vf us (l.drop k)) = (x0, y0, e0)) (fun si _ => l.length - (intOf si).toNat)
      case atStart => exact ⟨0, (0, 1), rfl, Nat.zero_le _, Qn.nil_ok, by go_simp, by go_simp, by go_simp, by go_simp, (by repeat (first | exact Below.refl _ _ | assumption | refine below_drewN ?_ _ | refine Below.setCell ?_ (by first | (simp; done) | (simp; omega)) _ | refine Below.alloc ?_ (by first | (simp; done) | (simp; omega) | omega) _ | refine Below.drew ?_ | refine Below.trans ?_ (Below.mono (by assumption) (by first | (simp; done) | (simp; omega) | omega)))), HSC.out⟩
      case round =>
        obtain ⟨k, s, rfl, hk, hs, d0, d1, d2, d3, hbw, hsc⟩ := hrel
        have HS := Lib.hid hs
        have HBW := Lib.hid hbw
        have HSK := Lib.hid hsc
        have r0 := cell_keep hbw r0
        have r1 := cell_keep hbw r1
        have r2 := cell_keep hbw r2
        have HFR := Lib.hid (HFR.out.below hbw)
        have hlr : w.heap.size < wr.heap.size := HFR.out.1
        have hl12 : wb.heap.size < wr.heap.size := World.block_lt_of_cell? wr _ d0
        have HBE := Lib.hid (HBE.out.trans (hbw.mono HBE.out.size))
        clear hs hbw hsc
        by_cases hlt : k < l.length
        · have hu : l[k]? = some l[k] := List.getElem?_eq_getElem hlt
          have hd : l.drop k = l[k] :: l.drop (k + 1) := List.drop_eq_getElem_cons hlt
          generalize l[k] = a at hu hd
          have hi0 : (0 : Int) ≤ (k : Int) := by omega
          have hi1 : (k : Int) < (l.length : Int) := by omega
          have hm := HAM.out a (List.mem_of_getElem? hu)
          have HRV := Lib.hid hm.2
          have HF1 := Lib.hid (Qn.fac_un HAG.out hm.1)
          have hsc := HSK.out
          rw [hd] at hsc
          have HSK2 := Lib.hid (show Qn.sumC u2.fac s ((a.2, (Qn.un us a.1).fac) :: Qn.vf us (l.drop (k + 1))) = (x0, y0, e0) from hsc)
          obtain ⟨k1, hk1⟩ : ∃ k1 : Nat, a.1 = k1 := ⟨a.1.toNat, by have := hm.1.1; omega⟩
          have HU1 := Lib.hid (show us[k1]? = some (Qn.un us a.1) by have := Qn.un_get hm.1; rw [hk1] at this ⊢; simpa using this)
          have hj1 : (k1 : Int) < (us.length : Int) := by have := hm.1.2; omega
          have hj0 : (0 : Int) ≤ (k1 : Int) := by omega
          have HK1 := Lib.hid hk1
          obtain ⟨bl, ol, hqe, ⟨a0, a1, a2⟩, _, hbl⟩ := (HLb.out.below HBW.out).at hu
          subst hqe
          rw [hk1] at a0
          obtain ⟨ub, uo, hpe, ⟨_, _, e2, e3, e4⟩, _, hub⟩ := (HTb.out.below HBW.out).at HU1.out
          subst hpe
          obtain ⟨_, _, hpe, ⟨_, _, g2, g3, g4⟩, _, _⟩ := (HTb.out.below HBW.out).at HU2.out
          cases hpe
          obtain ⟨x, y, e, hcv⟩ : ∃ x y e, Qn.conv a.2 (Qn.un us a.1).fac u2.fac = (x, y, e) := ⟨_, _, _, rfl⟩
          have HCV := Lib.hid hcv
          have HC2 := Lib.hid (conv_two HRV.out HF1.out HF2.out)
          clear hu hd hm hsc hk1 hcv
          go_upto_region 17 with fail
          go_cut [14, 15] (fun s14 s15 wx => ∃ g : Nat, s14 = .pointer (some ⟨g, 0, none⟩) ∧ s15 = .int .i64 e ∧ wr.heap.size ≤ g ∧ wx.cell? ⟨g, 0, none⟩ = some (.int .i64 x) ∧ wx.cell? ⟨g, 1, none⟩ = some (.int .i64 y) ∧ Below wr.heap.size wr wx)
          case first =>
            go_region_held3 (fun w' => Below wr.heap.size wr w' ∧ ∀ b o, b < wr.heap.size → w'.cell? ⟨b, o, none⟩ = wr.cell? ⟨b, o, none⟩) (first | assumption | exact holdT (by assumption) (by assumption) | exact hold_new (by assumption) | exact hold_put (hold_put (by assumption) (by simp; omega)) (by simp; omega) | exact holdS (by repeat (first | exact Below.refl _ _ | assumption | refine below_drewN ?_ _ | refine Below.setCell ?_ (by first | (simp; done) | (simp; omega)) _ | refine Below.alloc ?_ (by first | (simp; done) | (simp; omega) | omega) _ | refine Below.drew ?_ | refine Below.trans ?_ (Below.mono (by assumption) (by first | (simp; done) | (simp; omega) | omega)))))
              (first | (go_at_call 26; refine (scaled_walk a.2 (Qn.un us a.1).fac u2.fac _ HRV.out HF1.out HF2.out).mono ?_; rintro e w' ⟨rfl, hb'⟩; rw [HCV.out]; simp only [RV]; have hzz := hb'.size; (try simp at hzz); have y0 := hb'.cell (p := ⟨wr.heap.size, 0, none⟩); have y1 := hb'.cell (p := ⟨wr.heap.size, 1, none⟩); have y2 := hb'.frozen (p := ⟨wr.heap.size, 0, none⟩); have y3 := hb'.frozen (p := ⟨wr.heap.size, 1, none⟩)))
            all_goals
              go_wp2_with fail
              go_meet
              exact ⟨_, rfl, rfl, (by first | (simp; done) | (simp; omega) | omega), by go_simp, by go_simp, (by repeat (first | exact Below.refl _ _ | assumption | refine below_drewN ?_ _ | refine Below.setCell ?_ (by first | (simp; done) | (simp; omega)) _ | refine Below.alloc ?_ (by first | (simp; done) | (simp; omega) | omega) _ | refine Below.drew ?_ | refine Below.trans ?_ (Below.mono (by assumption) (by first | (simp; done) | (simp; omega) | omega))))⟩
          case rest =>
            obtain ⟨g, rfl, rfl, hge, q0, q1, hb9⟩ := hcut
            obtain ⟨w9, rfl⟩ : ∃ W, W = wc := ⟨_, rfl⟩
            have r0 := cell_keep hb9 r0
            have r1 := cell_keep hb9 r1
            have r2 := cell_keep hb9 r2
            have d0 := cell_keep hb9 d0
            have d1 := cell_keep hb9 d1
            have d2 := (hb9.frozen (p := ⟨wb.heap.size, 0, none⟩) hl12).trans d2
            have d3 := (hb9.frozen (p := ⟨wb.heap.size, 1, none⟩) hl12).trans d3
            have hfr := HFR.out.below hb9
            have HFR9 := Lib.hid hfr
            have hg9 : g < w9.heap.size := World.block_lt_of_cell? w9 _ q0
            have hl9 : w.heap.size < w9.heap.size := hfr.1
            have hl129 : wb.heap.size < w9.heap.size := by omega
            have HB9 := Lib.hid (HBE.out.trans (hb9.mono HBE.out.size))
            have HBW9 := Lib.hid (HBW.out.trans (hb9.mono HBW.out.size))
            clear hb9 hfr
            by_cases he : e = 0
            · subst he
              have HRO := Lib.hid (show Qn.RO (x, y) by
                rcases HC2.out with ⟨p1, q1, h1, h2⟩ | h1
                · rw [HCV.out] at h1
                  simp only [Prod.mk.injEq] at h1
                  rw [h1.1, h1.2.1]
                  exact h2
                · rw [HCV.out] at h1
                  simp at h1)
              obtain ⟨p1, q2, e1, hss⟩ : ∃ p q e, Rt.addS s.1 s.2 x y = (p, q, e) := ⟨_, _, _, rfl⟩
              have HSS := Lib.hid hss
              have HSE := Lib.hid (add_err HS.out HRO.out hss)
              clear hss
              have hx1 := HS.out
              have hx2 := HRO.out
              go_wp2_with fail
              refine (radd_any s.1 s.2 x y _).mono ?_
              rintro e w10 ⟨rfl, hb10⟩
              rw [HSS.out]
              simp only [RV]
              have r0 := cell_keep hb10 r0
              have r1 := cell_keep hb10 r1
              have r2 := cell_keep hb10 r2
              have d0 := cell_keep hb10 d0
              have d1 := cell_keep hb10 d1
              have d2 := (hb10.frozen (p := ⟨wb.heap.size, 0, none⟩) hl129).trans d2
              have d3 := (hb10.frozen (p := ⟨wb.heap.size, 1, none⟩) hl129).trans d3
              have HFR10 := Lib.hid (HFR9.out.below hb10)
              have HB10 := Lib.hid (HB9.out.trans (hb10.mono HB9.out.size))
              have HBW10 := Lib.hid (HBW9.out.trans (hb10.mono HBW9.out.size))
              have hl10 : w.heap.size < w10.heap.size := HFR10.out.1
              have hl1210 : wb.heap.size < w10.heap.size := Nat.lt_of_lt_of_le hl129 hb10.size
              have hlwb : w.heap.size < wb.heap.size := HLWB.out
              have hne : wb.heap.size ≠ w.heap.size := by omega
              have hne2 : w.heap.size ≠ wb.heap.size := by omega
              clear hb10 hx1 hx2
              rcases HSE.out with ⟨rfl, hpq⟩ | rfl
              · have HPQ := Lib.hid hpq
                have HN := Lib.hid (show Qn.sumC u2.fac (p1, q2) (Qn.vf us (l.drop (k + 1))) = (x0, y0, e0) from (Qn.sumC_cons_of (x := (a.2, (Qn.un us a.1).fac)) (v := (x, y)) (t := (p1, q2)) _ HCV.out HSS.out).symm.trans HSK2.out)
                clear hpq
                go_wp2_with fail
                go_roundw
                case rel => exact ⟨k + 1, (p1, q2), by simp, hlt, HPQ.out, by go_simp, by go_simp, by go_simp, by go_simp, (HBW10.out.setCell (by simp) _).setCell (by simp) _, HN.out⟩
                case measure => simp only [intOf]; exact meas_lt hlt
              · have HN := Lib.hid (show res = (0, (0, 0), 2) by
                  rw [HRES.out]
                  have q := HSK2.out
                  rw [Qn.sumC] at q
                  simp only [HCV.out, HSS.out, if_true] at q
                  rw [if_neg (by decide)] at q
                  simp only [Prod.mk.injEq] at q
                  rw [← q.1, ← q.2.1, ← q.2.2]
                  rfl)
                obtain ⟨fr0, fr1, fr2, fr3⟩ := HFR10.out
                go_wp2_with fail
                refine bodyPost_ret (v := RA (0, (0, 0), 2)) (by simp [results, Try.results13, go_sem, RA, r0, r1, r2]) rfl ⟨by rw [HN.out], (by repeat (first | exact Below.refl _ _ | exact HB10.out | assumption | refine below_drewN ?_ _ | refine Below.setCell ?_ (by first | (simp; done) | (simp; omega)) _ | refine Below.alloc ?_ (by first | (simp; done) | (simp; omega) | omega) _ | refine Below.drew ?_ | refine Below.trans ?_ (Below.mono (by assumption) (by first | (simp; done) | (simp; omega) | omega))))⟩
            · have heb : (e != 0) = true := bne_iff_ne.2 he
              have he2 : e = 2 := by
                rcases HC2.out with ⟨p1, q1, h1, h2⟩ | h1
                · rw [HCV.out] at h1
                  simp only [Prod.mk.injEq] at h1
                  exact absurd h1.2.2 he
                · rw [HCV.out] at h1
                  simp only [Prod.mk.injEq] at h1
                  exact h1.2.2
              have HN := Lib.hid (show res = (0, (0, 0), e) by
                rw [HRES.out]
                have q := HSK2.out
                rw [Qn.sumC, if_neg (by rw [HCV.out]; exact he)] at q
                simp only [Prod.mk.injEq] at q
                rw [he2, ← q.1, ← q.2.1, ← q.2.2]
                rfl)
              clear he he2
              obtain ⟨fr0, fr1, fr2, fr3⟩ := HFR9.out
              go_wp2_with fail
              refine bodyPost_ret (v := RA (0, (0, 0), e)) (by simp [results, Try.results13, go_sem, RA, r0, r1, r2]) rfl ⟨by rw [HN.out], (by repeat (first | exact Below.refl _ _ | exact HB9.out | assumption | refine below_drewN ?_ _ | refine Below.setCell ?_ (by first | (simp; done) | (simp; omega)) _ | refine Below.alloc ?_ (by first | (simp; done) | (simp; omega) | omega) _ | refine Below.drew ?_ | refine Below.trans ?_ (Below.mono (by assumption) (by first | (simp; done) | (simp; omega) | omega))))⟩
        · obtain rfl : k = l.length := by omega
          have hN := HSK.out
          rw [List.drop_eq_nil_of_le (Nat.le_refl _)] at hN
          have HN := Lib.hid (show res = ((k2 : Int), (s.1, s.2), 0) by
            rw [HRES.out]
            simp only [Qn.vf, List.map_nil, Qn.sumC, Prod.mk.injEq] at hN
            rw [← hN.1, ← hN.2.1, ← hN.2.2]
            rfl)
          clear hN
          have hlwb : w.heap.size < wb.heap.size := HLWB.out
          obtain ⟨fr0, fr1, fr2, fr3⟩ := HFR.out
          go_wp2_with fail
          refine bodyPost_ret (v := RA ((k2 : Int), (s.1, s.2), 0)) (by simp [results, Try.results13, go_sem, RA, r0, r1, r2]) rfl ⟨by rw [HN.out], (by repeat (first | exact Below.refl _ _ | exact HBE.out | assumption | refine below_drewN ?_ _ | refine Below.setCell ?_ (by first | (simp; done) | (simp; omega)) _ | refine Below.alloc ?_ (by first | (simp; done) | (simp; omega) | omega) _ | refine Below.drew ?_ | refine Below.trans ?_ (Below.mono (by assumption) (by first | (simp; done) | (simp; omega) | omega))))⟩
end Go.Proofs.Ytpdknjbhnelidaa

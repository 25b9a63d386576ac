/- The reference's Instants. -/
import Derived.Test.YtcacmigfpahicaaRzB
import Derived.Test.YtcacmigfpahicaaZnE
import Derived.OwnWalk
namespace Go.Proofs.Ytcacmigfpahicaa
open Go.RowKit Go.Shelf

theorem rinstants_bad (o : Int) (p : Option Addr) (cs : List (Int × Int)) (cap : Nat) (d m : Int) (w : World) (hch : Chg w p cs) (h : ¬ Zn.good o cs d m) :
    Calls Try.prog 21 #[.agg #[.int .i64 o, .slice p cs.length cap], .int .i64 d, .int .i64 m] w fun e w' => e = .returned (.slice none 0 0) ∧ Below w.heap.size w w' := by
  have HC := Lib.hid hch
  have H := Lib.hid (decide_eq_false h)
  clear hch h
  go_enter Try.func21, Try.ntmps21
  go_wp2_with fail
  refine (rgood_calls o p cs cap d m _ (HC.out.below (by repeat (first | exact Below.refl _ _ | assumption | refine below_drewN ?_ _ | refine Below.setCell ?_ (by first | (simp; done) | (simp; omega)) _ | refine Below.alloc ?_ (by first | (simp; done) | (simp; omega) | omega) _ | refine Below.drew ?_ | refine Below.trans ?_ (Below.mono (by assumption) (by first | (simp; done) | (simp; omega) | omega)))))).mono ?_
  rintro e w1 ⟨rfl, hb1⟩
  rw [H.out]
  go_wp2_with fail
  go_ret
  exact ⟨rfl, (by repeat (first | exact Below.refl _ _ | assumption | refine below_drewN ?_ _ | refine Below.setCell ?_ (by first | (simp; done) | (simp; omega)) _ | refine Below.alloc ?_ (by first | (simp; done) | (simp; omega) | omega) _ | refine Below.drew ?_ | refine Below.trans ?_ (Below.mono (by assumption) (by first | (simp; done) | (simp; omega) | omega))))⟩
theorem rsegment_k (o : Int) (p : Option Addr) (cs : List (Int × Int)) (cap : Nat) (t : Int) (k : Nat) (w : World) (hk : Zn.seg cs t = k) (hn : cs.length ≤ 100) (hch : Chg w p cs) :
    Calls Try.prog 27 #[.agg #[.int .i64 o, .slice p cs.length cap], .int .i64 t] w fun e w' => e = .returned (.int .i64 k) ∧ Below w.heap.size w w' := by
  subst hk
  exact rsegment_calls o p cs cap t w hn hch
theorem byS_len (lo o : Int) (cs : List (Int × Int)) (L : Int) : ∀ n, (Zn.byS lo o cs L n).length ≤ n
  | 0 => Nat.le_refl _
  | n + 1 => by
    rw [Zn.byS_succ, List.length_append]
    have := byS_len lo o cs L n
    split
    · simp; omega
    · simp; omega
set_option maxRecDepth 100000 in
set_option maxHeartbeats 2000000 in
theorem rinstants_good (o : Int) (p : Option Addr) (cs : List (Int × Int)) (cap : Nat) (d m : Int) (w : World) (hch : Chg w p cs) (h : Zn.good o cs d m) :
    Calls Try.prog 21 #[.agg #[.int .i64 o, .slice p cs.length cap], .int .i64 d, .int .i64 m] w fun e w' => ∃ v, e = .returned v ∧ IntsAt w' v (Zn.inst 0 o cs (d * 1440 + m)) ∧ Below w.heap.size w w' := by
  obtain ⟨i0, hi, hz0, hz1, hz2⟩ := info_parts info_int
  obtain ⟨hok, hd0, hd1, hm0, hm1⟩ := h
  have hlen : cs.length ≤ 40 := hok.2.2.1
  have w1 : wrap64 (d * 1440) = d * 1440 := wrap_in (by omega) (by omega)
  have w2 : wrap64 (d * 1440 + m) = d * 1440 + m := wrap_in (by omega) (by omega)
  have hLb : 0 ≤ d * 1440 + m ∧ d * 1440 + m ≤ 200000000 := by omega
  have HC := Lib.hid hch
  have H := Lib.hid (decide_eq_true (show Zn.good o cs d m from ⟨hok, hd0, hd1, hm0, hm1⟩))
  have HO := Lib.hid hok
  have HZ := Lib.hid (And.intro hi (And.intro hz0 (And.intro hz1 hz2)))
  have HW1 := Lib.hid w1
  have HW2 := Lib.hid w2
  have HN := Lib.hid (show cs.length ≤ 100 by omega)
  clear hch hok hi hz0 hz1 hz2 hd0 hd1 hm0 hm1 w1 w2
  go_enter Try.func21, Try.ntmps21
  go_wp2_with fail
  refine (rgood_calls o p cs cap d m _ (HC.out.below (by repeat (first | exact Below.refl _ _ | assumption | refine below_drewN ?_ _ | refine Below.setCell ?_ (by first | (simp; done) | (simp; omega)) _ | refine Below.alloc ?_ (by first | (simp; done) | (simp; omega) | omega) _ | refine Below.drew ?_ | refine Below.trans ?_ (Below.mono (by assumption) (by first | (simp; done) | (simp; omega) | omega)))))).mono ?_
  rintro e wv ⟨rfl, hb⟩
  rw [H.out]
  have hzv := hb.size
  (try simp at hzv)
  have f0 : wv.cell? ⟨w.heap.size, 0, none⟩ = some (.int .i64 o) := cell_keep hb (by go_simp)
  have f1 : wv.cell? ⟨w.heap.size, 1, none⟩ = some (.slice p cs.length cap) := cell_keep hb (by go_simp)
  have hbw : Below w.heap.size w wv := (by repeat (first | exact Below.refl _ _ | assumption | refine below_drewN ?_ _ | refine Below.setCell ?_ (by first | (simp; done) | (simp; omega)) _ | refine Below.alloc ?_ (by first | (simp; done) | (simp; omega) | omega) _ | refine Below.drew ?_ | refine Below.trans ?_ (Below.mono (by assumption) (by first | (simp; done) | (simp; omega) | omega))))
  have HB := Lib.hid hbw
  have HCV := Lib.hid (HC.out.below hbw)
  have lw : w.heap.size < wv.heap.size := by omega
  clear hb hbw
  go_wp2_with fail
  go_loopw [7, 8] (fun v i wr => ∃ (k : Nat) (v0 : Value), v = v0 ∧ i = .int .i64 k ∧ k ≤ cs.length + 1 ∧ wr.ownsRow wv.heap.size 3 1 v0 (Zn.byS 0 o cs (d * 1440 + m) k).length ((Zn.byS 0 o cs (d * 1440 + m) k).map (Value.int .i64)) ∧ Below wv.heap.size wv wr) (fun _ i _ => cs.length + 1 - (intOf i).toNat)
  case atStart => exact ⟨0, _, rfl, rfl, Nat.zero_le _, World.ownsRow_nil _ _ _ _, Below.refl _ _⟩
  case round =>
    obtain ⟨k, v, hv0, rfl, hk, hrow, hbr⟩ := hrel
    have hv1 := hv0.symm
    subst hv1
    have hsz := hbr.size
    have g0 := (hbr.cell (p := ⟨w.heap.size, 0, none⟩) lw).trans f0
    have g1 := (hbr.cell (p := ⟨w.heap.size, 1, none⟩) lw).trans f1
    have lr : w.heap.size < wr.heap.size := by omega
    have HROW := Lib.hid hrow
    have HBR := Lib.hid hbr
    have HF0 := Lib.hid f0
    have HF1 := Lib.hid f1
    clear hrow hbr f0 f1
    by_cases hlt : k ≤ cs.length
    · have hxb := Zn.offs_bd HO.out k
      obtain ⟨x, hx⟩ : ∃ x, x = Zn.offs o cs k := ⟨_, rfl⟩
      rw [← hx] at hxb
      have HX := Lib.hid hx
      have HKL := Lib.hid hlt
      obtain ⟨L, hL⟩ : ∃ L, L = d * 1440 + m := ⟨_, rfl⟩
      obtain ⟨y, hy⟩ : ∃ y, y = d * 1440 := ⟨_, rfl⟩
      have u1 : wrap64 (d * 1440) = y := by rw [HW1.out, hy]
      have u2 : wrap64 (y + m) = L := by rw [hy, HW2.out, hL]
      have HROW' := HROW.out
      have hsu := Zn.byS_succ 0 o cs (d * 1440 + m) k
      have hbl := byS_len 0 o cs (d * 1440 + m) k
      rw [← hx] at hsu
      generalize hnow : Zn.byS 0 o cs (d * 1440 + m) k = now at HROW' hsu hbl
      have hLb' := hLb
      rw [← hL] at hsu hLb'
      have w3 : wrap64 (L - x) = L - x := wrap_in (by omega) (by omega)
      obtain ⟨a, ha⟩ : ∃ a, a = L - x := ⟨_, rfl⟩
      have u3 : wrap64 (L - x) = a := by rw [w3, ha]
      rw [← ha] at hsu
      have HRW := Lib.hid HROW'
      have HSU := Lib.hid hsu
      have HBL := Lib.hid hbl
      have HHL := Lib.hid hL
      have HCR := Lib.hid (HCV.out.below HBR.out)
      clear hx hL hy hsu hbl hnow w3 ha hxb HROW' hLb hLb'
      have skip : ¬ (0 ≤ a ∧ a ≤ 105190559 ∧ Zn.seg cs a = k) → Zn.byS 0 o cs (d * 1440 + m) (k + 1) = now := fun hn => by rw [← HHL.out, HSU.out, if_neg hn, List.append_nil]
      have SK := Lib.hid skip
      clear skip
      have rel0 : ∀ w', Below wr.heap.size wr w' → w'.ownsRow wv.heap.size 3 1 v now.length (now.map (Value.int .i64)) := fun w' hb' => own_same HRW.out (Same.of_below (keep := fun _ => True) hb') (fun _ _ _ => trivial)
      have REL0 := Lib.hid rel0
      have HK1 := Lib.hid (show k + 1 ≤ cs.length + 1 by omega)
      clear rel0
      by_cases h1 : 0 ≤ a
      · by_cases h2 : a ≤ 105190559
        · by_cases h3 : Zn.seg cs a = k
          · have hyes : Zn.byS 0 o cs (d * 1440 + m) (k + 1) = now ++ [a] := by rw [← HHL.out, HSU.out, if_pos ⟨h1, h2, h3⟩]
            have HYES := Lib.hid hyes
            have H3 := Lib.hid h3
            clear hyes h3
            go_wp2_with fail
            refine (roffset_k o p cs cap k x wr HX.out HKL.out HN.out HCR.out).mono ?_
            rintro e w2 ⟨rfl, hb2⟩
            have b2 : Below wr.heap.size wr w2 := hb2
            have hz2 := b2.size
            have p0 := cell_keep b2 g0
            have p1 := cell_keep b2 g1
            have l2 : w.heap.size < w2.heap.size := by omega
            have B2 := Lib.hid b2
            clear hb2 b2
            go_wp2_with fail
            refine (rsegment_k o p cs cap a k w2 H3.out HN.out (HCR.out.below B2.out)).mono ?_
            rintro e w3 ⟨rfl, hb3⟩
            have hz3 := hb3.size
            have r0 := cell_keep hb3 p0
            have r1 := cell_keep hb3 p1
            have l3 : w.heap.size < w3.heap.size := by omega
            have B3 := Lib.hid (B2.out.trans (hb3.mono B2.out.size))
            clear hb3 p0 p1 l2
            obtain ⟨hi, hz0, hz1, hz2⟩ := HZ.out
            have HI := Lib.hid hi
            have HY0 := Lib.hid hz0
            have HY1 := Lib.hid hz1
            have HY2 := Lib.hid hz2
            have HR3 := Lib.hid (REL0.out w3 B3.out)
            clear hi hz0 hz1 hz2
            go_wp2_with (at_builtin; refine wpList_append_own _ rfl _ _ 33 rfl wv.heap.size 3 i0 (.int .i64 0) 1 8 Try.underlying33 HI.out HY0.out HY1.out HY2.out rfl (by decide) _ _ _ rfl (HR3.out.alloc _) ⟨w3.heap.size, 0, none⟩ 1 1 [.int .i64 a] rfl rfl (cell_one_new _ _ _) (by simp [Value.oneCell']) (by have := HBL.out; simp [maxLen]; omega) (by have := HBL.out; omega) (by have := B3.out.size; simp; omega) ?_; intro v' w4 hown' hgrow _; obtain ⟨g', cap', rfl⟩ := ownsRow_succ hown')
            go_roundw
            case rel =>
              refine ⟨k + 1, _, rfl, by simp, HK1.out, by rw [HYES.out]; simpa using hown', ?_⟩
              have s3 : Same (fun j => j < wv.heap.size) w3 w4 := ((Same.refl _ w3).alloc _).grown hgrow (fun r hr hk => by have := (own_block HR3.out hr).1; omega)
              exact (HBR.out.trans (B3.out.mono HBR.out.size)).trans (s3.below (by have := B3.out.size; omega) (fun j hj => hj))
            case measure =>
              simp only [intOf]
              exact meas_lt (Nat.lt_succ_of_le HKL.out)
          · have HNO := Lib.hid (SK.out (fun h => h3 h.2.2))
            obtain ⟨k2, hk2⟩ : ∃ k2, Zn.seg cs a = k2 := ⟨_, rfl⟩
            have hne : ((k2 : Int) == (k : Int)) = false := by rw [hk2] at h3; exact beq_eq_false_iff_ne.2 (by omega)
            have H3 := Lib.hid hk2
            clear h3 hk2
            go_wp2_with fail
            refine (roffset_k o p cs cap k x wr HX.out HKL.out HN.out HCR.out).mono ?_
            rintro e w2 ⟨rfl, hb2⟩
            have b2 : Below wr.heap.size wr w2 := hb2
            have hz2 := b2.size
            have p0 := cell_keep b2 g0
            have p1 := cell_keep b2 g1
            have l2 : w.heap.size < w2.heap.size := by omega
            have B2 := Lib.hid b2
            clear hb2 b2
            go_wp2_with fail
            refine (rsegment_k o p cs cap a k2 w2 H3.out HN.out (HCR.out.below B2.out)).mono ?_
            rintro e w3 ⟨rfl, hb3⟩
            have hz3 := hb3.size
            have r0 := cell_keep hb3 p0
            have r1 := cell_keep hb3 p1
            have l3 : w.heap.size < w3.heap.size := by omega
            have B3 := Lib.hid (B2.out.trans (hb3.mono B2.out.size))
            clear hb3 p0 p1 l2
            go_wp2_with fail
            go_roundw
            case rel => exact ⟨k + 1, _, rfl, by simp, HK1.out, by rw [HNO.out]; exact REL0.out w3 B3.out, HBR.out.trans (B3.out.mono HBR.out.size)⟩
            case measure =>
              simp only [intOf]
              exact meas_lt (Nat.lt_succ_of_le HKL.out)
        · have HNO := Lib.hid (SK.out (fun h => h2 h.2.1))
          go_wp2_with fail
          refine (roffset_k o p cs cap k x wr HX.out HKL.out HN.out HCR.out).mono ?_
          rintro e w2 ⟨rfl, hb2⟩
          have b2 : Below wr.heap.size wr w2 := hb2
          have hz2 := b2.size
          have p0 := cell_keep b2 g0
          have p1 := cell_keep b2 g1
          have l2 : w.heap.size < w2.heap.size := by omega
          have B2 := Lib.hid b2
          clear hb2 b2
          go_wp2_with fail
          go_roundw
          case rel => exact ⟨k + 1, _, rfl, by simp, HK1.out, by rw [HNO.out]; exact REL0.out w2 B2.out, HBR.out.trans (B2.out.mono HBR.out.size)⟩
          case measure =>
            simp only [intOf]
            exact meas_lt (Nat.lt_succ_of_le HKL.out)
      · have HNO := Lib.hid (SK.out (fun h => h1 h.1))
        go_wp2_with fail
        refine (roffset_k o p cs cap k x wr HX.out HKL.out HN.out HCR.out).mono ?_
        rintro e w2 ⟨rfl, hb2⟩
        have b2 : Below wr.heap.size wr w2 := hb2
        have hz2 := b2.size
        have p0 := cell_keep b2 g0
        have p1 := cell_keep b2 g1
        have l2 : w.heap.size < w2.heap.size := by omega
        have B2 := Lib.hid b2
        clear hb2 b2
        go_wp2_with fail
        go_roundw
        case rel => exact ⟨k + 1, _, rfl, by simp, HK1.out, by rw [HNO.out]; exact REL0.out w2 B2.out, HBR.out.trans (B2.out.mono HBR.out.size)⟩
        case measure =>
          simp only [intOf]
          exact meas_lt (Nat.lt_succ_of_le HKL.out)
    · obtain rfl : k = cs.length + 1 := by omega
      have hr := HROW.out
      rw [Zn.byS_inst cs 0 o _ HO.out.2.2.2] at hr
      have HR := Lib.hid hr
      clear hr
      have hcl : ¬ ((cs.length : Int) + 1 ≤ (cs.length : Int)) := by omega
      go_wp2_with fail
      go_ret
      exact ⟨_, rfl, intsAt_of_owns HR.out, HB.out.trans (HBR.out.mono HB.out.size)⟩
theorem rinstants_calls (o : Int) (p : Option Addr) (cs : List (Int × Int)) (cap : Nat) (d m : Int) (w : World) (hch : Chg w p cs) :
    Calls Try.prog 21 #[.agg #[.int .i64 o, .slice p cs.length cap], .int .i64 d, .int .i64 m] w fun e w' => ∃ v, e = .returned v ∧ IntsAt w' v (Zn.instS o cs d m) ∧ Below w.heap.size w w' := by
  by_cases h : Zn.good o cs d m
  · unfold Zn.instS
    rw [if_pos h]
    exact rinstants_good o p cs cap d m w hch h
  · unfold Zn.instS
    rw [if_neg h]
    exact (rinstants_bad o p cs cap d m w hch h).mono fun e w' ⟨he, hb⟩ => ⟨_, he, intsAt_nil _, hb⟩
end Go.Proofs.Ytcacmigfpahicaa

/- The reference's right and Valid. -/
import Derived.Test.YtpdknjbhnelidaaQtU
namespace Go.Proofs.Ytpdknjbhnelidaa
open Go.RowKit

open Classical in
theorem right_any (p : Option Addr) (cap : Nat) (us : List Qn.Un) (i : Nat) (u : Qn.Un) (w : World) (hu : us[i]? = some u) (ht : Tab w p us) :
    Calls Try.prog 20 #[.slice p us.length cap, .int .i64 i] w fun e w' => e = .returned (.bool (decide (Qn.GoodU us i u))) ∧ Below w.heap.size w w' := by
  by_cases h : 20 ≤ i
  · rw [decide_eq_false (fun k => by have := k.1; omega)]
    exact right_many p cap us i u w hu ht h
  have h' : i < 20 := by omega
  by_cases hn : u.nm = []
  · rw [decide_eq_false (fun k => k.2.1 hn)]
    exact right_noname p cap us i u w hu ht h' (by rw [hn]; rfl)
  have hnb : u.nm.isEmpty = false := by cases e : u.nm.isEmpty with | false => rfl | true => exact absurd (List.isEmpty_iff.1 e) hn
  by_cases hk : u.kd = 1 ∨ u.kd = 2
  rotate_left
  · rw [decide_eq_false (fun k => hk k.2.2.2.1)]
    exact right_kind p cap us i u w hu ht h' hnb (bne_iff_ne.2 fun k => hk (.inl k)) (bne_iff_ne.2 fun k => hk (.inr k))
  have key : ∀ (P : Prop), (((u.kd != 1) = false) → P) → (((u.kd != 1) = true) → ((u.kd != 2) = false) → P) → P := fun P a b => by
    rcases hk with hk | hk
    · exact a (bne_eq_false_iff_eq.2 hk)
    · exact b (bne_iff_ne.2 (by omega)) (bne_eq_false_iff_eq.2 hk)
  by_cases hv : Rt.Ok u.fac.1 u.fac.2
  rotate_left
  · rw [decide_eq_false (fun k => hv k.2.2.2.2.1.1)]
    exact key _ (fun a => right_fac_g p cap us i u w hu ht h' hnb a (decide_eq_false hv)) (fun a b => right_fac_m p cap us i u w hu ht h' hnb a b (decide_eq_false hv))
  have hvt := decide_eq_true hv
  by_cases hp : u.fac.1 < 1
  · rw [decide_eq_false (fun k => by have := k.2.2.2.2.1.2; omega)]
    exact key _ (fun a => right_num_g p cap us i u w hu ht h' hnb a hp hvt) (fun a b => right_num_m p cap us i u w hu ht h' hnb a b hp hvt)
  have hp1 : 1 ≤ u.fac.1 := by omega
  by_cases hx : u.base < 0
  · rw [decide_eq_false (fun k => by have := k.2.2.2.2.2.1; omega)]
    exact key _ (fun a => right_low_g p cap us i u w hu ht h' hnb a hp1 hx hvt) (fun a b => right_low_m p cap us i u w hu ht h' hnb a b hp1 hx hvt)
  by_cases hy : (us.length : Int) ≤ u.base
  · rw [decide_eq_false (fun k => by have := k.2.2.2.2.2.2.1; omega)]
    exact key _ (fun a => right_high_g p cap us i u w hu ht h' hnb a hp1 (by omega) hy hvt) (fun a b => right_high_m p cap us i u w hu ht h' hnb a b hp1 (by omega) hy hvt)
  obtain ⟨kk, hbk⟩ : ∃ kk : Nat, u.base = (kk : Int) := ⟨u.base.toNat, by omega⟩
  have hkl : kk < us.length := by omega
  obtain ⟨bu, hq⟩ : ∃ bu, us[kk]? = some bu := ⟨_, List.getElem?_eq_getElem hkl⟩
  have hq' : us[u.base.toNat]? = some bu := by rw [hbk]; exact hq
  have hg := good_iff (i := i) hq'
  have hres : (((us.take i).any fun v => v.nm == u.nm) = true → decide (Qn.GoodU us i u) = false) ∧ (((us.take i).any fun v => v.nm == u.nm) = false → decide (Qn.GoodU us i u) = ((bu.base == (kk : Int)) && (bu.kd == u.kd) && (((kk : Int) != (i : Int)) || ((u.fac.1 == 1) && (u.fac.2 == 1))))) := by
    refine ⟨fun ha => decide_eq_false (fun k => (names_any us i u).1 ha k.2.2.1), fun ha => ?_⟩
    rw [Bool.eq_iff_iff]
    simp only [decide_eq_true_eq, Bool.and_eq_true, Bool.or_eq_true, beq_iff_eq, bne_iff_ne]
    constructor
    · intro k
      obtain ⟨_, _, _, _, _, _, _, _, e1, e2, e3⟩ := hg.1 k
      refine ⟨⟨by rw [e2, hbk], e1⟩, ?_⟩
      by_cases hki : (kk : Int) = (i : Int)
      · have q := e3 (by rw [hbk]; exact hki)
        exact .inr ⟨by rw [q], by rw [q]⟩
      · exact .inl hki
    · rintro ⟨⟨e1, e2⟩, e3⟩
      refine hg.2 ⟨h', hn, hk, ha, hv, by omega, by omega, by omega, e2, by rw [hbk]; exact e1, fun k => ?_⟩
      rcases e3 with e3 | ⟨e3, e4⟩
      · exact absurd (hbk.symm.trans k) e3
      · exact Prod.ext e3 e4
  exact key _ (fun a => right_go_g p cap us i u kk bu _ _ w hu ht h' hnb a hvt hp1 hbk hkl hq rfl hres) (fun a b => right_go_m p cap us i u kk bu _ _ w hu ht h' hnb a b hvt hp1 hbk hkl hq rfl hres)
set_option maxRecDepth 100000 in
set_option maxHeartbeats 1600000 in
open Classical in
theorem rqvalid_walk (p : Option Addr) (cap : Nat) (us : List Qn.Un) (r1 : Int) (r2 : Bool) (w : World) (ht : Tab w p us) (hr : Qn.validS us = (r1, r2)) :
    Calls Try.prog 7 #[.slice p us.length cap] w fun e w' => e = .returned (RIB (r1, r2)) ∧ Below w.heap.size w w' := by
  have HT := Lib.hid ht
  have HR := Lib.hid hr
  clear ht hr
  go_enter Try.func7, Try.ntmps7
  go_wp2_with fail
  go_loopw [4] (fun i wr => ∃ k : Nat, i = .int .i64 k ∧ k ≤ us.length ∧ k ≤ 20 ∧ Qn.firstBad us k (us.drop k) = (r1, r2) ∧ Below w.heap.size w wr) (fun i _ => us.length - (intOf i).toNat)
  case atStart => exact ⟨0, rfl, Nat.zero_le _, Nat.zero_le _, HR.out, Below.refl _ _⟩
  case round =>
    obtain ⟨k, rfl, hk, hk20, hrk, hb⟩ := hrel
    have HRK := Lib.hid hrk
    have HB := Lib.hid hb
    clear hrk hb
    by_cases hlt : k < us.length
    · have hu : us[k]? = some us[k] := List.getElem?_eq_getElem hlt
      have hd : us.drop k = us[k] :: us.drop (k + 1) := List.drop_eq_getElem_cons hlt
      generalize us[k] = u at hu hd
      have hcall := right_any p cap us k u wr hu (HT.out.below HB.out)
      have hrk := HRK.out
      rw [hd] at hrk
      by_cases hg : Qn.GoodU us k u
      · rw [firstBad_early hg] at hrk
        rw [decide_eq_true hg] at hcall
        have h20 : k < 20 := hg.1
        have HC := Lib.hid hcall
        have HN := Lib.hid hrk
        clear hcall hrk hg hu hd
        go_wp2_with fail
        refine HC.out.mono ?_
        rintro e w1 ⟨rfl, hb1⟩
        have HB1 := Lib.hid (HB.out.trans (hb1.mono HB.out.size))
        clear hb1
        go_wp2_with fail
        go_roundw
        case rel => exact ⟨k + 1, by simp, hlt, h20, HN.out, HB1.out⟩
        case measure =>
          simp only [intOf]
          exact meas_lt hlt
      · rw [firstBad_stop hg] at hrk
        rw [decide_eq_false hg] at hcall
        obtain ⟨rfl, rfl⟩ := Prod.mk.inj hrk
        have HC := Lib.hid hcall
        clear hcall hrk hg hu hd
        go_wp2_with fail
        refine HC.out.mono ?_
        rintro e w1 ⟨rfl, hb1⟩
        go_wp2_with fail
        go_ret2
        exact ⟨rfl, HB.out.trans (hb1.mono HB.out.size)⟩
    · have hrk := HRK.out
      rw [List.drop_eq_nil_of_le (by omega)] at hrk
      obtain ⟨rfl, rfl⟩ := Prod.mk.inj (show ((-1 : Int), true) = (r1, r2) from hrk)
      clear hrk
      go_wp2_with fail
      go_ret2
      exact ⟨rfl, HB.out⟩
theorem rqvalid_any (p : Option Addr) (cap : Nat) (us : List Qn.Un) (w : World) (ht : Tab w p us) :
    Calls Try.prog 7 #[.slice p us.length cap] w fun e w' => e = .returned (RIB (Qn.validS us)) ∧ Below w.heap.size w w' :=
  rqvalid_walk p cap us _ _ w ht rfl
end Go.Proofs.Ytpdknjbhnelidaa

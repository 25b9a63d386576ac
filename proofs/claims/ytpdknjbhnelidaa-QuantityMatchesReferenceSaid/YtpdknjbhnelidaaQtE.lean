/- isUnit, all cases; the walk of Valid. -/
import Derived.Test.YtpdknjbhnelidaaQtD
namespace Go.Proofs.Ytpdknjbhnelidaa
open Go.RowKit

open Classical in
theorem isu_any (p : Option Addr) (cap : Nat) (us : List Qn.Un) (i : Nat) (u : Qn.Un) (w : World) (hu : us[i]? = some u) (ht : Tab w p us) (hcap : us.length ≤ cap) :
    Calls Try.prog 19 #[.slice p us.length cap, .int .i64 i] w fun e w' => e = .returned (.bool (decide (Qn.GoodU us i u))) ∧ Below w.heap.size w w' := by
  by_cases h : 20 ≤ i
  · rw [decide_eq_false (fun k => by have := k.1; omega)]
    exact isu_many p cap us i u w hu ht h
  have h' : i < 20 := by omega
  by_cases hn : u.nm = []
  · rw [decide_eq_false (fun k => k.2.1 hn)]
    exact isu_noname p cap us i u w hu ht h' hn
  have hnb : (u.nm == []) = false := beq_eq_false_iff_ne.2 hn
  by_cases hk : u.kd = 1 ∨ u.kd = 2
  rotate_left
  · rw [decide_eq_false (fun k => hk k.2.2.2.1)]
    exact isu_kind p cap us i u w hu ht h' hn (bne_iff_ne.2 fun k => hk (.inl k)) (bne_iff_ne.2 fun k => hk (.inr k))
  have key : ∀ (P : Prop), (((u.kd != 1) = false) → P) → (((u.kd != 1) = true) → ((u.kd != 2) = false) → P) → P := fun P a b => by
    rcases hk with hk | hk
    · exact a (bne_eq_false_iff_eq.2 hk)
    · exact b (bne_iff_ne.2 (by omega)) (bne_eq_false_iff_eq.2 hk)
  cases ha : (us.take i).any fun v => v.nm == u.nm
  rotate_left
  · rw [decide_eq_false (fun k => (names_any us i u).1 ha k.2.2.1)]
    exact key _ (fun a => isu_dup_g p cap us i u w hu ht hcap h' hnb a ha) (fun a b => isu_dup_m p cap us i u w hu ht hcap h' hnb a b ha)
  by_cases hv : Rt.Ok u.fac.1 u.fac.2
  rotate_left
  · rw [decide_eq_false (fun k => hv k.2.2.2.2.1.1)]
    exact key _ (fun a => isu_fac_g p cap us i u w hu ht hcap h' hnb a ha hv) (fun a b => isu_fac_m p cap us i u w hu ht hcap h' hnb a b ha hv)
  by_cases hp : u.fac.1 ≤ 0
  · rw [decide_eq_false (fun k => by have := k.2.2.2.2.1.2; omega)]
    exact key _ (fun a => isu_num_g p cap us i u w hu ht hcap h' hnb a ha hv hp) (fun a b => isu_num_m p cap us i u w hu ht hcap h' hnb a b ha hv hp)
  by_cases hx : 0 ≤ u.base ∧ u.base < (us.length : Int)
  rotate_left
  · rw [decide_eq_false (fun k => hx ⟨k.2.2.2.2.2.1, k.2.2.2.2.2.2.1⟩)]
    exact key _ (fun a => isu_base_g p cap us i u w hu ht hcap h' hnb a ha hv hp (decide_eq_false hx)) (fun a b => isu_base_m p cap us i u w hu ht hcap h' hnb a b ha hv hp (decide_eq_false hx))
  obtain ⟨kk, hbk⟩ : ∃ kk : Nat, u.base = (kk : Int) := ⟨u.base.toNat, by omega⟩
  have hkl : kk < us.length := by omega
  obtain ⟨bu, hq⟩ : ∃ bu, us[kk]? = some bu := ⟨_, List.getElem?_eq_getElem hkl⟩
  have hq' : us[u.base.toNat]? = some bu := by rw [hbk]; exact hq
  have hg := good_iff (i := i) hq'
  rw [hbk] at hx
  have hx' := decide_eq_true hx
  have no : ∀ (P : Prop), (Qn.GoodU us i u → P) → ¬ P → decide (Qn.GoodU us i u) = false := fun P a b => decide_eq_false (fun k => b (a k))
  by_cases h1 : bu.kd = u.kd
  rotate_left
  · rw [no _ (fun k => (hg.1 k).2.2.2.2.2.2.2.2.1) h1]
    exact key _ (fun a => isu_bkind_g p cap us i u kk bu w hu ht hcap h' hnb a ha hv hp hx' hq hbk (bne_iff_ne.2 h1)) (fun a b => isu_bkind_m p cap us i u kk bu w hu ht hcap h' hnb a b ha hv hp hx' hq hbk (bne_iff_ne.2 h1))
  have h1' := bne_eq_false_iff_eq.2 h1
  by_cases h2 : bu.base = (kk : Int)
  rotate_left
  · rw [no _ (fun k => (hg.1 k).2.2.2.2.2.2.2.2.2.1) (by rw [hbk]; exact h2)]
    exact key _ (fun a => isu_bbase_g p cap us i u kk bu w hu ht hcap h' hnb a ha hv hp hx' hq hbk h1' (bne_iff_ne.2 h2)) (fun a b => isu_bbase_m p cap us i u kk bu w hu ht hcap h' hnb a b ha hv hp hx' hq hbk h1' (bne_iff_ne.2 h2))
  have h2' := bne_eq_false_iff_eq.2 h2
  have yes : (u.base = i → u.fac = (1, 1)) → decide (Qn.GoodU us i u) = true := fun k => decide_eq_true (hg.2 ⟨h', hn, hk, ha, hv, by omega, by omega, by omega, h1, by rw [hbk]; exact h2, k⟩)
  by_cases h3 : (kk : Int) = (i : Int)
  rotate_left
  · rw [yes (fun k => absurd (by rw [← hbk]; exact k) h3)]
    exact key _ (fun a => isu_other_g p cap us i u kk bu w hu ht hcap h' hnb a ha hv hp hx' hq hbk h1' h2' (bne_iff_ne.2 h3)) (fun a b => isu_other_m p cap us i u kk bu w hu ht hcap h' hnb a b ha hv hp hx' hq hbk h1' h2' (bne_iff_ne.2 h3))
  have h3' := bne_eq_false_iff_eq.2 h3
  by_cases h4 : u.fac.1 = 1
  rotate_left
  · rw [no _ (fun k => (hg.1 k).2.2.2.2.2.2.2.2.2.2) (fun k => h4 (by rw [k (by rw [hbk]; exact h3)]))]
    exact key _ (fun a => isu_odd1_g p cap us i u kk bu w hu ht hcap h' hnb a ha hv hp hx' hq hbk h1' h2' h3' (beq_eq_false_iff_ne.2 h4)) (fun a b => isu_odd1_m p cap us i u kk bu w hu ht hcap h' hnb a b ha hv hp hx' hq hbk h1' h2' h3' (beq_eq_false_iff_ne.2 h4))
  by_cases h5 : u.fac.2 = 1
  rotate_left
  · rw [no _ (fun k => (hg.1 k).2.2.2.2.2.2.2.2.2.2) (fun k => h5 (by rw [k (by rw [hbk]; exact h3)]))]
    exact key _ (fun a => isu_odd2_g p cap us i u kk bu w hu ht hcap h' hnb a ha hv hp hx' hq hbk h1' h2' h3' (beq_iff_eq.2 h4) (beq_eq_false_iff_ne.2 h5)) (fun a b => isu_odd2_m p cap us i u kk bu w hu ht hcap h' hnb a b ha hv hp hx' hq hbk h1' h2' h3' (beq_iff_eq.2 h4) (beq_eq_false_iff_ne.2 h5))
  rw [yes (fun _ => Prod.ext h4 h5)]
  exact key _ (fun a => isu_one_g p cap us i u kk bu w hu ht hcap h' hnb a ha hv hp hx' hq hbk h1' h2' h3' (beq_iff_eq.2 h4) (beq_iff_eq.2 h5)) (fun a b => isu_one_m p cap us i u kk bu w hu ht hcap h' hnb a b ha hv hp hx' hq hbk h1' h2' h3' (beq_iff_eq.2 h4) (beq_iff_eq.2 h5))
/-- what Valid answers, as a result -/
def RIB (x : Int × Bool) : Value := .tuple #[.int .i64 x.1, .bool x.2]
theorem firstBad_early {us : List Qn.Un} {k : Nat} {l : List Qn.Un} {u : Qn.Un} (h : Qn.GoodU us k u) : Qn.firstBad us k (u :: l) = Qn.firstBad us (k + 1) l := by rw [Qn.firstBad, if_pos h]
theorem firstBad_stop {us : List Qn.Un} {k : Nat} {l : List Qn.Un} {u : Qn.Un} (h : ¬ Qn.GoodU us k u) : Qn.firstBad us k (u :: l) = ((k : Int), false) := by rw [Qn.firstBad, if_neg h]
set_option maxRecDepth 100000 in
set_option maxHeartbeats 1600000 in
open Classical in
theorem qvalid_walk (p : Option Addr) (cap : Nat) (us : List Qn.Un) (r1 : Int) (r2 : Bool) (w : World) (ht : Tab w p us) (hcap : us.length ≤ cap) (hr : Qn.validS us = (r1, r2)) :
    Calls Try.prog 6 #[.slice p us.length cap] w fun e w' => e = .returned (RIB (r1, r2)) ∧ Below w.heap.size w w' := by
  have HT := Lib.hid ht
  have HR := Lib.hid hr
  clear ht hr
  go_enter Try.func6, Try.ntmps6
  go_wp2_with fail
  go_loopw [7] (fun i wr => ∃ k : Nat, i = .int .i64 k ∧ k ≤ us.length ∧ k ≤ 20 ∧ Qn.firstBad us k (us.drop k) = (r1, r2) ∧ Below w.heap.size w wr) (fun i _ => us.length - (intOf i).toNat)
  case atStart => exact ⟨0, rfl, Nat.zero_le _, Nat.zero_le _, HR.out, Below.refl _ _⟩
  case round =>
    obtain ⟨k, rfl, hk, hk20, hrk, hb⟩ := hrel
    have HRK := Lib.hid hrk
    have HB := Lib.hid hb
    clear hrk hb
    by_cases hlt : k < us.length
    · have hu : us[k]? = some us[k] := List.getElem?_eq_getElem hlt
      have hd : us.drop k = us[k] :: us.drop (k + 1) := List.drop_eq_getElem_cons hlt
      generalize us[k] = u at hu hd
      have hcall := isu_any p cap us k u wr hu (HT.out.below HB.out) hcap
      have hrk := HRK.out
      rw [hd] at hrk
      by_cases hg : Qn.GoodU us k u
      · rw [firstBad_early hg] at hrk
        rw [decide_eq_true hg] at hcall
        have h20 : k < 20 := hg.1
        have HC := Lib.hid hcall
        have HN := Lib.hid hrk
        clear hcall hrk hg hu hd
        go_wp2_with fail
        refine HC.out.mono ?_
        rintro e w1 ⟨rfl, hb1⟩
        have HB1 := Lib.hid (HB.out.trans (hb1.mono HB.out.size))
        clear hb1
        go_wp2_with fail
        go_roundw
        case rel => exact ⟨k + 1, by simp, hlt, h20, HN.out, HB1.out⟩
        case measure =>
          simp only [intOf]
          exact meas_lt hlt
      · rw [firstBad_stop hg] at hrk
        rw [decide_eq_false hg] at hcall
        obtain ⟨rfl, rfl⟩ := Prod.mk.inj hrk
        have HC := Lib.hid hcall
        clear hcall hrk hg hu hd
        go_wp2_with fail
        refine HC.out.mono ?_
        rintro e w1 ⟨rfl, hb1⟩
        go_wp2_with fail
        go_ret2
        exact ⟨rfl, HB.out.trans (hb1.mono HB.out.size)⟩
    · have hrk := HRK.out
      rw [List.drop_eq_nil_of_le (by omega)] at hrk
      obtain ⟨rfl, rfl⟩ := Prod.mk.inj (show ((-1 : Int), true) = (r1, r2) from hrk)
      clear hrk
      go_wp2_with fail
      go_ret2
      exact ⟨rfl, HB.out⟩
theorem qvalid_any (p : Option Addr) (cap : Nat) (us : List Qn.Un) (w : World) (ht : Tab w p us) (hcap : us.length ≤ cap) :
    Calls Try.prog 6 #[.slice p us.length cap] w fun e w' => e = .returned (RIB (Qn.validS us)) ∧ Below w.heap.size w w' :=
  qvalid_walk p cap us _ _ w ht hcap rfl
end Go.Proofs.Ytpdknjbhnelidaa

/- The walks of zone.Local, zone.skipping. -/
import Derived.Test.YtcacmigfpahicaaZnE
namespace Go.Proofs.Ytcacmigfpahicaa
open Go.RowKit Go.Shelf

theorem tmod_pos {y k : Int} (h : 0 ≤ y) : y.tmod k = y % k := Int.tmod_eq_emod_of_nonneg h
theorem tdiv_pos {y k : Int} (h : 0 ≤ y) : y.tdiv k = y / k := Int.tdiv_eq_ediv_of_nonneg h
/-- two numbers and an error, as a result -/
def R3 (x : Int × Int × Int) : Value := .tuple #[.int .i64 x.1, .int .i64 x.2.1, .int .i64 x.2.2]
/-- a number and an error, as a result -/
def R2 (x : Int × Int) : Value := .tuple #[.int .i64 x.1, .int .i64 x.2]

theorem local_bad (o : Int) (p : Option Addr) (cs : List (Int × Int)) (cap : Nat) (t : Int) (w : World) (hch : Chg w p cs) (h : ¬ Zn.Ok o cs) :
    Calls Try.prog 11 #[.agg #[.int .i64 o, .slice p cs.length cap], .int .i64 t] w fun e w' => e = .returned (R3 (Zn.localS o cs t)) ∧ Below w.heap.size w w' := by
  rw [Zn.local_arg (fun k => h k.1)]
  have HC := Lib.hid hch
  have H := Lib.hid h
  clear hch h
  go_enter Try.func11, Try.ntmps11
  go_wp2_with (go_at_call 17; refine (valid_no (HC.out.below (by repeat (first | exact Below.refl _ _ | assumption | refine below_drewN ?_ _ | refine Below.setCell ?_ (by first | (simp; done) | (simp; omega)) _ | refine Below.alloc ?_ (by first | (simp; done) | (simp; omega) | omega) _ | refine Below.drew ?_ | refine Below.trans ?_ (Below.mono (by assumption) (by first | (simp; done) | (simp; omega) | omega))))) H.out).mono ?_; rintro e w1 ⟨rfl, hb1⟩)
  go_ret3
  exact ⟨rfl, (by repeat (first | exact Below.refl _ _ | assumption | refine below_drewN ?_ _ | refine Below.setCell ?_ (by first | (simp; done) | (simp; omega)) _ | refine Below.alloc ?_ (by first | (simp; done) | (simp; omega) | omega) _ | refine Below.drew ?_ | refine Below.trans ?_ (Below.mono (by assumption) (by first | (simp; done) | (simp; omega) | omega))))⟩
theorem local_far (o : Int) (p : Option Addr) (cs : List (Int × Int)) (cap : Nat) (t : Int) (w : World) (hch : Chg w p cs) (h : Zn.Ok o cs) (ht : ¬ (0 ≤ t ∧ t ≤ 105190559)) :
    Calls Try.prog 11 #[.agg #[.int .i64 o, .slice p cs.length cap], .int .i64 t] w fun e w' => e = .returned (R3 (Zn.localS o cs t)) ∧ Below w.heap.size w w' := by
  rw [Zn.local_arg (fun k => ht k.2)]
  have HC := Lib.hid hch
  have H := Lib.hid h
  have HT := Lib.hid ht
  clear hch h ht
  go_enter Try.func11, Try.ntmps11
  go_wp2_with fail
  refine (valid_yes (HC.out.below (by repeat (first | exact Below.refl _ _ | assumption | refine below_drewN ?_ _ | refine Below.setCell ?_ (by first | (simp; done) | (simp; omega)) _ | refine Below.alloc ?_ (by first | (simp; done) | (simp; omega) | omega) _ | refine Below.drew ?_ | refine Below.trans ?_ (Below.mono (by assumption) (by first | (simp; done) | (simp; omega) | omega))))) H.out).mono ?_
  rintro e w1 ⟨rfl, hb1⟩
  have hz1 := hb1.size
  (try simp at hz1)
  have c1 : w1.cell? ⟨w.heap.size + 1, 0, none⟩ = some (.int .i64 t) := cell_keep hb1 (by go_simp)
  go_wp2_with fail
  refine (isInstant_no _ _ HT.out).mono ?_
  rintro e w2 ⟨rfl, rfl⟩
  go_wp2_with fail
  go_ret3
  exact ⟨rfl, (by repeat (first | exact Below.refl _ _ | assumption | refine below_drewN ?_ _ | refine Below.setCell ?_ (by first | (simp; done) | (simp; omega)) _ | refine Below.alloc ?_ (by first | (simp; done) | (simp; omega) | omega) _ | refine Below.drew ?_ | refine Below.trans ?_ (Below.mono (by assumption) (by first | (simp; done) | (simp; omega) | omega))))⟩
theorem find_until (o : Int) (p : Option Addr) (cs : List (Int × Int)) (cap : Nat) (t : Int) (ab : Nat) (w : World) (hch : Chg w p cs) (h : Zn.Ok o cs) (ht : t ≤ 105190559) (hab : w.cell? ⟨ab, 0, none⟩ = some (.int .i64 t)) :
    Calls Try.prog 24 #[.agg #[.int .i64 o, .slice p cs.length cap], .func (.func 25) #[] #[.pointer (some ⟨ab, 0, none⟩)]] w fun e W' =>
      e = .returned (.tuple #[.agg #[.int .i64 (Zn.frmL 0 cs (Zn.seg cs t)), .int .i64 (Zn.upto cs (Zn.seg cs t)), .int .i64 (Zn.bef o cs (Zn.seg cs t)), .int .i64 (Zn.offAt o cs t)], .bool true]) ∧ Below w.heap.size w W' := by
  have hlen := h.2.2.1
  refine find_calls o p cs cap 25 #[.pointer (some ⟨ab, 0, none⟩)] (fun k => decide (t < Zn.upto cs k)) (Zn.seg cs t) w (by omega) hch (enters_of Try.func25 (by kernel_rfl) rfl) ?_ ?_ ?_ _ ?_ ?_
  · intro k W _ hb
    exact until_calls _ _ _ _ t ab W (by have := Same.lt_of_cell hab; have := hb.size; dsimp only at *; omega) (cell_keep hb hab)
  · intro j hj _
    exact decide_eq_false (by have := Zn.seg_before cs t j hj; omega)
  · intro _
    exact decide_eq_true (Zn.seg_here cs t (by omega))
  · intro _
    rw [strV, Zn.offs_seg]
  · intro hn
    exact absurd (Zn.seg_le cs t) hn
set_option maxHeartbeats 800000 in
theorem local_in (o : Int) (p : Option Addr) (cs : List (Int × Int)) (cap : Nat) (t : Int) (w : World) (hch : Chg w p cs) (h : Zn.Ok o cs) (ht : 0 ≤ t ∧ t ≤ 105190559) :
    Calls Try.prog 11 #[.agg #[.int .i64 o, .slice p cs.length cap], .int .i64 t] w fun e w' => e = .returned (R3 (Zn.localS o cs t)) ∧ Below w.heap.size w w' := by
  have hbd := Zn.offAt_bd cs 0 o t h.1 h.2.1 h.2.2.2
  obtain ⟨v, hv⟩ : ∃ v, v = Zn.offAt o cs t := ⟨_, rfl⟩
  rw [← hv] at hbd
  have hw : wrap64 (t + v) = t + v := by unfold wrap64; omega
  have HC := Lib.hid hch
  have H := Lib.hid h
  have HT := Lib.hid ht
  have HV := Lib.hid hv
  have HBD := Lib.hid hbd
  obtain ⟨L, hL⟩ : ∃ L, L = t + v := ⟨_, rfl⟩
  rw [← hL] at hw
  have hw' : wrap64 (t + v) = L := by rw [← hL]; exact hw
  have HL := Lib.hid hL
  obtain ⟨res, hres⟩ : ∃ res, res = Zn.localS o cs t := ⟨_, rfl⟩
  rw [← hres]
  have HR := Lib.hid hres
  clear hch h ht hv hbd hL hw hres
  have key : ∀ b : Bool, b = decide (0 ≤ L ∧ L ≤ 105190559) → res = if b then (L / 1440, L % 1440, 0) else (0, 0, 2) := by
    intro b hb
    have hh : 0 ≤ t ∧ t ≤ 105190559 := HT.out
    by_cases hl : 0 ≤ L ∧ L ≤ 105190559
    · rw [decide_eq_true hl] at hb
      rw [hb, HR.out, Zn.local_ok ⟨H.out, hh⟩ (by rw [← HV.out, ← HL.out]; exact hl), ← HV.out, ← HL.out]
      rfl
    · rw [decide_eq_false hl] at hb
      rw [hb, HR.out, Zn.local_range ⟨H.out, hh⟩ (by rw [← HV.out, ← HL.out]; exact hl)]
      rfl
  by_cases hl : 0 ≤ L ∧ L ≤ 105190559
  · have hk := key true (decide_eq_true hl).symm
    rw [if_pos rfl] at hk
    have HLL := Lib.hid hl
    obtain ⟨q, hq⟩ : ∃ q, q = L / 1440 := ⟨_, rfl⟩
    obtain ⟨m, hm⟩ : ∃ m, m = L % 1440 := ⟨_, rfl⟩
    have e1 : L.tdiv 1440 = q := by rw [tdiv_pos hl.1, hq]
    have e2 : L.tmod 1440 = m := by rw [tmod_pos hl.1, hm]
    have e3 : wrap64 q = q := by unfold wrap64; omega
    rw [← hq, ← hm] at hk
    subst hk
    clear hl key hq hm
    go_enter Try.func11, Try.ntmps11
    go_wp2_with fail
    refine (valid_yes (HC.out.below (by repeat (first | exact Below.refl _ _ | assumption | refine below_drewN ?_ _ | refine Below.setCell ?_ (by first | (simp; done) | (simp; omega)) _ | refine Below.alloc ?_ (by first | (simp; done) | (simp; omega) | omega) _ | refine Below.drew ?_ | refine Below.trans ?_ (Below.mono (by assumption) (by first | (simp; done) | (simp; omega) | omega))))) H.out).mono ?_
    rintro e w1 ⟨rfl, hb1⟩
    have hz1 := hb1.size
    (try simp at hz1)
    have c1 : w1.cell? ⟨w.heap.size + 1, 0, none⟩ = some (.int .i64 t) := cell_keep hb1 (by go_simp)
    have c2 : w1.cell? ⟨w.heap.size, 0, none⟩ = some (.int .i64 o) := cell_keep hb1 (by go_simp)
    have c3 : w1.cell? ⟨w.heap.size, 1, none⟩ = some (.slice p cs.length cap) := cell_keep hb1 (by go_simp)
    have be1 : Below w.heap.size w w1 := (by repeat (first | exact Below.refl _ _ | assumption | refine below_drewN ?_ _ | refine Below.setCell ?_ (by first | (simp; done) | (simp; omega)) _ | refine Below.alloc ?_ (by first | (simp; done) | (simp; omega) | omega) _ | refine Below.drew ?_ | refine Below.trans ?_ (Below.mono (by assumption) (by first | (simp; done) | (simp; omega) | omega))))
    have BE1 := Lib.hid be1
    clear hb1 be1
    go_wp2_with fail
    refine (isInstant_yes _ _ HT.out).mono ?_
    rintro e w2 ⟨rfl, rfl⟩
    go_wp2_with fail
    refine (find_until o p cs cap t (w.heap.size + 1) w1 (HC.out.below BE1.out) H.out HT.out.2 c1).mono ?_
    rintro e w3 ⟨rfl, hb3⟩
    rw [← HV.out]
    have hz3 := hb3.size
    have d1 : w3.cell? ⟨w.heap.size + 1, 0, none⟩ = some (.int .i64 t) := cell_keep hb3 c1
    have l1 : w.heap.size + 1 < w3.heap.size := by omega
    have BE3 := Lib.hid (BE1.out.trans (hb3.mono BE1.out.size))
    clear hb3 c1 c2 c3
    go_wp2_with fail
    refine (isInstant_yes _ _ HLL.out).mono ?_
    rintro e w4 ⟨rfl, rfl⟩
    go_wp2_with fail
    go_ret3
    exact ⟨by first | rfl | (rw [e3]; rfl), by have q := BE3.out; repeat (first | exact q | refine Below.alloc ?_ (by omega) _)⟩
  · have hk := key false (decide_eq_false hl).symm
    rw [if_neg (by simp)] at hk
    have HLL := Lib.hid hl
    subst hk
    clear hl key
    go_enter Try.func11, Try.ntmps11
    go_wp2_with fail
    refine (valid_yes (HC.out.below (by repeat (first | exact Below.refl _ _ | assumption | refine below_drewN ?_ _ | refine Below.setCell ?_ (by first | (simp; done) | (simp; omega)) _ | refine Below.alloc ?_ (by first | (simp; done) | (simp; omega) | omega) _ | refine Below.drew ?_ | refine Below.trans ?_ (Below.mono (by assumption) (by first | (simp; done) | (simp; omega) | omega))))) H.out).mono ?_
    rintro e w1 ⟨rfl, hb1⟩
    have hz1 := hb1.size
    (try simp at hz1)
    have c1 : w1.cell? ⟨w.heap.size + 1, 0, none⟩ = some (.int .i64 t) := cell_keep hb1 (by go_simp)
    have c2 : w1.cell? ⟨w.heap.size, 0, none⟩ = some (.int .i64 o) := cell_keep hb1 (by go_simp)
    have c3 : w1.cell? ⟨w.heap.size, 1, none⟩ = some (.slice p cs.length cap) := cell_keep hb1 (by go_simp)
    have be1 : Below w.heap.size w w1 := (by repeat (first | exact Below.refl _ _ | assumption | refine below_drewN ?_ _ | refine Below.setCell ?_ (by first | (simp; done) | (simp; omega)) _ | refine Below.alloc ?_ (by first | (simp; done) | (simp; omega) | omega) _ | refine Below.drew ?_ | refine Below.trans ?_ (Below.mono (by assumption) (by first | (simp; done) | (simp; omega) | omega))))
    have BE1 := Lib.hid be1
    clear hb1 be1
    go_wp2_with fail
    refine (isInstant_yes _ _ HT.out).mono ?_
    rintro e w2 ⟨rfl, rfl⟩
    go_wp2_with fail
    refine (find_until o p cs cap t (w.heap.size + 1) w1 (HC.out.below BE1.out) H.out HT.out.2 c1).mono ?_
    rintro e w3 ⟨rfl, hb3⟩
    rw [← HV.out]
    have hz3 := hb3.size
    have d1 : w3.cell? ⟨w.heap.size + 1, 0, none⟩ = some (.int .i64 t) := cell_keep hb3 c1
    have l1 : w.heap.size + 1 < w3.heap.size := by omega
    have BE3 := Lib.hid (BE1.out.trans (hb3.mono BE1.out.size))
    clear hb3 c1 c2 c3
    go_wp2_with fail
    refine (isInstant_no _ _ HLL.out).mono ?_
    rintro e w4 ⟨rfl, rfl⟩
    go_wp2_with fail
    go_ret3
    exact ⟨rfl, by have q := BE3.out; repeat (first | exact q | refine Below.alloc ?_ (by omega) _)⟩
theorem local_calls (o : Int) (p : Option Addr) (cs : List (Int × Int)) (cap : Nat) (t : Int) (w : World) (hch : Chg w p cs) :
    Calls Try.prog 11 #[.agg #[.int .i64 o, .slice p cs.length cap], .int .i64 t] w fun e w' => e = .returned (R3 (Zn.localS o cs t)) ∧ Below w.heap.size w w' := by
  by_cases h : Zn.Ok o cs
  · by_cases ht : 0 ≤ t ∧ t ≤ 105190559
    · exact local_in o p cs cap t w hch h ht
    · exact local_far o p cs cap t w hch h ht
  · exact local_bad o p cs cap t w hch h
end Go.Proofs.Ytcacmigfpahicaa

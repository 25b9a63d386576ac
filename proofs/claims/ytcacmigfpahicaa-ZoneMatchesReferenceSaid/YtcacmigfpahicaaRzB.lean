/- The reference's Local, good. -/
import Derived.Test.YtcacmigfpahicaaRzA
import Derived.Deep.RegionHeld3
namespace Go.Proofs.Ytcacmigfpahicaa
open Go.RowKit Go.Shelf

theorem rholdS {W w' : World} (h : Below W.heap.size W w') : Below W.heap.size W w' ∧ ∀ b o, b < W.heap.size → w'.cell? ⟨b, o, none⟩ = W.cell? ⟨b, o, none⟩ := ⟨h, fun b o hb => h.cell (p := ⟨b, o, none⟩) hb⟩
theorem rholdT {W w' w'' : World} (h : Below W.heap.size W w' ∧ ∀ b o, b < W.heap.size → w'.cell? ⟨b, o, none⟩ = W.cell? ⟨b, o, none⟩) (hb : Below w'.heap.size w' w'') :
    Below W.heap.size W w'' ∧ ∀ b o, b < W.heap.size → w''.cell? ⟨b, o, none⟩ = W.cell? ⟨b, o, none⟩ := rholdS (h.1.trans (hb.mono h.1.size))
theorem rvalid_yes {o : Int} {p : Option Addr} {cs : List (Int × Int)} {cap : Nat} {w : World} (hch : Chg w p cs) (h : Zn.Ok o cs) :
    Calls Try.prog 18 #[.agg #[.int .i64 o, .slice p cs.length cap]] w fun e w' => e = .returned (.bool true) ∧ Below w.heap.size w w' := by
  have := rvalid_calls o p cs cap w hch
  rwa [decide_eq_true h] at this
theorem rvalid_no {o : Int} {p : Option Addr} {cs : List (Int × Int)} {cap : Nat} {w : World} (hch : Chg w p cs) (h : ¬ Zn.Ok o cs) :
    Calls Try.prog 18 #[.agg #[.int .i64 o, .slice p cs.length cap]] w fun e w' => e = .returned (.bool false) ∧ Below w.heap.size w w' := by
  have := rvalid_calls o p cs cap w hch
  rwa [decide_eq_false h] at this
set_option maxRecDepth 100000 in
set_option maxHeartbeats 1600000 in
theorem rlocal_bad (o : Int) (p : Option Addr) (cs : List (Int × Int)) (cap : Nat) (t : Int) (w : World) (hch : Chg w p cs) (h : ¬ Zn.Ok o cs) :
    Calls Try.prog 12 #[.agg #[.int .i64 o, .slice p cs.length cap], .int .i64 t] w fun e w' => e = .returned (R3 (Zn.localS o cs t)) ∧ Below w.heap.size w w' := by
  rw [Zn.local_arg (fun k => h k.1)]
  have HC := Lib.hid hch
  have H := Lib.hid h
  clear hch h
  go_enter Try.func12, Try.ntmps12
  go_wp2_with fail
  refine (rvalid_no (HC.out.below (by repeat (first | exact Below.refl _ _ | assumption | refine below_drewN ?_ _ | refine Below.setCell ?_ (by first | (simp; done) | (simp; omega)) _ | refine Below.alloc ?_ (by first | (simp; done) | (simp; omega) | omega) _ | refine Below.drew ?_ | refine Below.trans ?_ (Below.mono (by assumption) (by first | (simp; done) | (simp; omega) | omega))))) H.out).mono ?_
  rintro e w1 ⟨rfl, hb1⟩
  go_wp2_with fail
  go_ret3
  exact ⟨rfl, (by repeat (first | exact Below.refl _ _ | assumption | refine below_drewN ?_ _ | refine Below.setCell ?_ (by first | (simp; done) | (simp; omega)) _ | refine Below.alloc ?_ (by first | (simp; done) | (simp; omega) | omega) _ | refine Below.drew ?_ | refine Below.trans ?_ (Below.mono (by assumption) (by first | (simp; done) | (simp; omega) | omega))))⟩
set_option maxRecDepth 100000 in
set_option maxHeartbeats 1600000 in
theorem rlocal_low (o : Int) (p : Option Addr) (cs : List (Int × Int)) (cap : Nat) (t : Int) (w : World) (hch : Chg w p cs) (h : Zn.Ok o cs) (ht : t < 0) :
    Calls Try.prog 12 #[.agg #[.int .i64 o, .slice p cs.length cap], .int .i64 t] w fun e w' => e = .returned (R3 (Zn.localS o cs t)) ∧ Below w.heap.size w w' := by
  rw [Zn.local_arg (fun k => by have := k.2.1; omega)]
  have HC := Lib.hid hch
  have H := Lib.hid h
  clear hch h
  go_enter Try.func12, Try.ntmps12
  go_wp2_with fail
  refine (rvalid_yes (HC.out.below (by repeat (first | exact Below.refl _ _ | assumption | refine below_drewN ?_ _ | refine Below.setCell ?_ (by first | (simp; done) | (simp; omega)) _ | refine Below.alloc ?_ (by first | (simp; done) | (simp; omega) | omega) _ | refine Below.drew ?_ | refine Below.trans ?_ (Below.mono (by assumption) (by first | (simp; done) | (simp; omega) | omega))))) H.out).mono ?_
  rintro e w1 ⟨rfl, hb1⟩
  go_wp2_with fail
  go_ret3
  exact ⟨rfl, (by repeat (first | exact Below.refl _ _ | assumption | refine below_drewN ?_ _ | refine Below.setCell ?_ (by first | (simp; done) | (simp; omega)) _ | refine Below.alloc ?_ (by first | (simp; done) | (simp; omega) | omega) _ | refine Below.drew ?_ | refine Below.trans ?_ (Below.mono (by assumption) (by first | (simp; done) | (simp; omega) | omega))))⟩
set_option maxRecDepth 100000 in
set_option maxHeartbeats 1600000 in
theorem rlocal_high (o : Int) (p : Option Addr) (cs : List (Int × Int)) (cap : Nat) (t : Int) (w : World) (hch : Chg w p cs) (h : Zn.Ok o cs) (ht0 : ¬ t < 0) (ht : 105190559 < t) :
    Calls Try.prog 12 #[.agg #[.int .i64 o, .slice p cs.length cap], .int .i64 t] w fun e w' => e = .returned (R3 (Zn.localS o cs t)) ∧ Below w.heap.size w w' := by
  rw [Zn.local_arg (fun k => by have := k.2.2; omega)]
  have HC := Lib.hid hch
  have H := Lib.hid h
  clear hch h
  go_enter Try.func12, Try.ntmps12
  go_wp2_with fail
  refine (rvalid_yes (HC.out.below (by repeat (first | exact Below.refl _ _ | assumption | refine below_drewN ?_ _ | refine Below.setCell ?_ (by first | (simp; done) | (simp; omega)) _ | refine Below.alloc ?_ (by first | (simp; done) | (simp; omega) | omega) _ | refine Below.drew ?_ | refine Below.trans ?_ (Below.mono (by assumption) (by first | (simp; done) | (simp; omega) | omega))))) H.out).mono ?_
  rintro e w1 ⟨rfl, hb1⟩
  go_wp2_with fail
  go_ret3
  exact ⟨rfl, (by repeat (first | exact Below.refl _ _ | assumption | refine below_drewN ?_ _ | refine Below.setCell ?_ (by first | (simp; done) | (simp; omega)) _ | refine Below.alloc ?_ (by first | (simp; done) | (simp; omega) | omega) _ | refine Below.drew ?_ | refine Below.trans ?_ (Below.mono (by assumption) (by first | (simp; done) | (simp; omega) | omega))))⟩
theorem roffset_k (o : Int) (p : Option Addr) (cs : List (Int × Int)) (cap : Nat) (k : Nat) (v : Int) (w : World) (hv : v = Zn.offs o cs k) (hk : k ≤ cs.length) (hn : cs.length ≤ 100) (hch : Chg w p cs) :
    Calls Try.prog 26 #[.agg #[.int .i64 o, .slice p cs.length cap], .int .i64 k] w fun e w' => e = .returned (.int .i64 v) ∧ Below w.heap.size w w' := by
  subst hv
  exact roffset_calls o p cs cap k w hk hn hch
set_option maxRecDepth 100000 in
set_option maxHeartbeats 1600000 in
theorem rlocal_before (o : Int) (p : Option Addr) (cs : List (Int × Int)) (cap : Nat) (t : Int) (w : World) (hch : Chg w p cs) (h : Zn.Ok o cs) (ht : 0 ≤ t ∧ t ≤ 105190559) (hl : t + Zn.offAt o cs t < 0) :
    Calls Try.prog 12 #[.agg #[.int .i64 o, .slice p cs.length cap], .int .i64 t] w fun e w' => e = .returned (R3 (Zn.localS o cs t)) ∧ Below w.heap.size w w' := by
  rw [Zn.local_range ⟨h, ht⟩ (by omega)]
  have HC := Lib.hid hch
  have hbd := Zn.offAt_bd cs 0 o t h.1 h.2.1 h.2.2.2
  obtain ⟨k, hk⟩ : ∃ k, Zn.seg cs t = k := ⟨_, rfl⟩
  obtain ⟨v, hv⟩ : ∃ v, v = Zn.offAt o cs t := ⟨_, rfl⟩
  have hkv : v = Zn.offs o cs k := by rw [hv, ← hk, Zn.offs_seg]
  rw [← hv] at hbd hl
  have hlen := h.2.2.1
  have HN := Lib.hid (show cs.length ≤ 100 by omega)
  have HKN := Lib.hid (show k ≤ cs.length by rw [← hk]; exact Zn.seg_le cs t)
  have HK := Lib.hid hk
  have HKV := Lib.hid hkv
  have H := Lib.hid h
  obtain ⟨L, hL⟩ : ∃ L, L = t + v := ⟨_, rfl⟩
  have wl : wrap64 (t + v) = L := by rw [hL]; exact wrap_in (by omega) (by omega)
  rw [← hL] at hl
  have ht1 : ¬ t < 0 := by omega
  have ht2 : ¬ 105190559 < t := by omega
  clear hch h hk hv hkv hbd hlen hL ht
  go_enter Try.func12, Try.ntmps12
  go_wp2_with fail
  refine (rvalid_yes (HC.out.below (by repeat (first | exact Below.refl _ _ | assumption | refine below_drewN ?_ _ | refine Below.setCell ?_ (by first | (simp; done) | (simp; omega)) _ | refine Below.alloc ?_ (by first | (simp; done) | (simp; omega) | omega) _ | refine Below.drew ?_ | refine Below.trans ?_ (Below.mono (by assumption) (by first | (simp; done) | (simp; omega) | omega))))) H.out).mono ?_
  rintro e w1 ⟨rfl, hb1⟩
  have hz1 := hb1.size
  (try simp at hz1)
  have c1 : w1.cell? ⟨w.heap.size, 0, none⟩ = some (.int .i64 o) := cell_keep hb1 (by go_simp)
  have c2 : w1.cell? ⟨w.heap.size, 1, none⟩ = some (.slice p cs.length cap) := cell_keep hb1 (by go_simp)
  have be1 : Below w.heap.size w w1 := (by repeat (first | exact Below.refl _ _ | assumption | refine below_drewN ?_ _ | refine Below.setCell ?_ (by first | (simp; done) | (simp; omega)) _ | refine Below.alloc ?_ (by first | (simp; done) | (simp; omega) | omega) _ | refine Below.drew ?_ | refine Below.trans ?_ (Below.mono (by assumption) (by first | (simp; done) | (simp; omega) | omega))))
  have hc1 := HC.out.below be1
  have HC1 := Lib.hid hc1
  have BE1 := Lib.hid be1
  have lz : w.heap.size < w1.heap.size := by omega
  clear hb1 be1 hc1
  go_wp2_with fail
  go_region_held3 (fun w' => Below w1.heap.size w1 w' ∧ ∀ b o, b < w1.heap.size → w'.cell? ⟨b, o, none⟩ = w1.cell? ⟨b, o, none⟩) (first | assumption | exact rholdT (by assumption) (by assumption) | exact rholdS (by repeat (first | exact Below.refl _ _ | assumption | refine below_drewN ?_ _ | refine Below.setCell ?_ (by first | (simp; done) | (simp; omega)) _ | refine Below.alloc ?_ (by first | (simp; done) | (simp; omega) | omega) _ | refine Below.drew ?_ | refine Below.trans ?_ (Below.mono (by assumption) (by first | (simp; done) | (simp; omega) | omega)))))
    (first | (go_at_call 27; refine (rsegment_calls o p cs cap t _ HN.out (HC1.out.below (by repeat (first | exact Below.refl _ _ | assumption | refine below_drewN ?_ _ | refine Below.setCell ?_ (by first | (simp; done) | (simp; omega)) _ | refine Below.alloc ?_ (by first | (simp; done) | (simp; omega) | omega) _ | refine Below.drew ?_ | refine Below.trans ?_ (Below.mono (by assumption) (by first | (simp; done) | (simp; omega) | omega)))))).mono ?_; rintro e w' ⟨rfl, hb'⟩; rw [HK.out]) | (go_at_call 26; refine (roffset_k o p cs cap k v _ HKV.out HKN.out HN.out (HC1.out.below (by repeat (first | exact Below.refl _ _ | assumption | refine below_drewN ?_ _ | refine Below.setCell ?_ (by first | (simp; done) | (simp; omega)) _ | refine Below.alloc ?_ (by first | (simp; done) | (simp; omega) | omega) _ | refine Below.drew ?_ | refine Below.trans ?_ (Below.mono (by assumption) (by first | (simp; done) | (simp; omega) | omega)))))).mono ?_; rintro e w' ⟨rfl, hb'⟩))
  have hS := (show Below w1.heap.size w1 w' ∧ ∀ b o, b < w1.heap.size → w'.cell? ⟨b, o, none⟩ = w1.cell? ⟨b, o, none⟩ by assumption).1
  have BE2 := Lib.hid (BE1.out.trans (hS.mono BE1.out.size))
  go_wp2_with fail
  go_ret3
  exact ⟨rfl, BE2.out⟩
set_option maxRecDepth 100000 in
set_option maxHeartbeats 1600000 in
theorem rlocal_behind (o : Int) (p : Option Addr) (cs : List (Int × Int)) (cap : Nat) (t : Int) (w : World) (hch : Chg w p cs) (h : Zn.Ok o cs) (ht : 0 ≤ t ∧ t ≤ 105190559) (hl0 : ¬ t + Zn.offAt o cs t < 0) (hl : 105190559 < t + Zn.offAt o cs t) :
    Calls Try.prog 12 #[.agg #[.int .i64 o, .slice p cs.length cap], .int .i64 t] w fun e w' => e = .returned (R3 (Zn.localS o cs t)) ∧ Below w.heap.size w w' := by
  rw [Zn.local_range ⟨h, ht⟩ (by omega)]
  have HC := Lib.hid hch
  have hbd := Zn.offAt_bd cs 0 o t h.1 h.2.1 h.2.2.2
  obtain ⟨k, hk⟩ : ∃ k, Zn.seg cs t = k := ⟨_, rfl⟩
  obtain ⟨v, hv⟩ : ∃ v, v = Zn.offAt o cs t := ⟨_, rfl⟩
  have hkv : v = Zn.offs o cs k := by rw [hv, ← hk, Zn.offs_seg]
  rw [← hv] at hbd hl hl0
  have hlen := h.2.2.1
  have HN := Lib.hid (show cs.length ≤ 100 by omega)
  have HKN := Lib.hid (show k ≤ cs.length by rw [← hk]; exact Zn.seg_le cs t)
  have HK := Lib.hid hk
  have HKV := Lib.hid hkv
  have H := Lib.hid h
  obtain ⟨L, hL⟩ : ∃ L, L = t + v := ⟨_, rfl⟩
  have wl : wrap64 (t + v) = L := by rw [hL]; exact wrap_in (by omega) (by omega)
  rw [← hL] at hl hl0
  have ht1 : ¬ t < 0 := by omega
  have ht2 : ¬ 105190559 < t := by omega
  clear hch h hk hv hkv hbd hlen hL ht
  go_enter Try.func12, Try.ntmps12
  go_wp2_with fail
  refine (rvalid_yes (HC.out.below (by repeat (first | exact Below.refl _ _ | assumption | refine below_drewN ?_ _ | refine Below.setCell ?_ (by first | (simp; done) | (simp; omega)) _ | refine Below.alloc ?_ (by first | (simp; done) | (simp; omega) | omega) _ | refine Below.drew ?_ | refine Below.trans ?_ (Below.mono (by assumption) (by first | (simp; done) | (simp; omega) | omega))))) H.out).mono ?_
  rintro e w1 ⟨rfl, hb1⟩
  have hz1 := hb1.size
  (try simp at hz1)
  have c1 : w1.cell? ⟨w.heap.size, 0, none⟩ = some (.int .i64 o) := cell_keep hb1 (by go_simp)
  have c2 : w1.cell? ⟨w.heap.size, 1, none⟩ = some (.slice p cs.length cap) := cell_keep hb1 (by go_simp)
  have be1 : Below w.heap.size w w1 := (by repeat (first | exact Below.refl _ _ | assumption | refine below_drewN ?_ _ | refine Below.setCell ?_ (by first | (simp; done) | (simp; omega)) _ | refine Below.alloc ?_ (by first | (simp; done) | (simp; omega) | omega) _ | refine Below.drew ?_ | refine Below.trans ?_ (Below.mono (by assumption) (by first | (simp; done) | (simp; omega) | omega))))
  have hc1 := HC.out.below be1
  have HC1 := Lib.hid hc1
  have BE1 := Lib.hid be1
  have lz : w.heap.size < w1.heap.size := by omega
  clear hb1 be1 hc1
  go_wp2_with fail
  go_region_held3 (fun w' => Below w1.heap.size w1 w' ∧ ∀ b o, b < w1.heap.size → w'.cell? ⟨b, o, none⟩ = w1.cell? ⟨b, o, none⟩) (first | assumption | exact rholdT (by assumption) (by assumption) | exact rholdS (by repeat (first | exact Below.refl _ _ | assumption | refine below_drewN ?_ _ | refine Below.setCell ?_ (by first | (simp; done) | (simp; omega)) _ | refine Below.alloc ?_ (by first | (simp; done) | (simp; omega) | omega) _ | refine Below.drew ?_ | refine Below.trans ?_ (Below.mono (by assumption) (by first | (simp; done) | (simp; omega) | omega)))))
    (first | (go_at_call 27; refine (rsegment_calls o p cs cap t _ HN.out (HC1.out.below (by repeat (first | exact Below.refl _ _ | assumption | refine below_drewN ?_ _ | refine Below.setCell ?_ (by first | (simp; done) | (simp; omega)) _ | refine Below.alloc ?_ (by first | (simp; done) | (simp; omega) | omega) _ | refine Below.drew ?_ | refine Below.trans ?_ (Below.mono (by assumption) (by first | (simp; done) | (simp; omega) | omega)))))).mono ?_; rintro e w' ⟨rfl, hb'⟩; rw [HK.out]) | (go_at_call 26; refine (roffset_k o p cs cap k v _ HKV.out HKN.out HN.out (HC1.out.below (by repeat (first | exact Below.refl _ _ | assumption | refine below_drewN ?_ _ | refine Below.setCell ?_ (by first | (simp; done) | (simp; omega)) _ | refine Below.alloc ?_ (by first | (simp; done) | (simp; omega) | omega) _ | refine Below.drew ?_ | refine Below.trans ?_ (Below.mono (by assumption) (by first | (simp; done) | (simp; omega) | omega)))))).mono ?_; rintro e w' ⟨rfl, hb'⟩))
  have hS := (show Below w1.heap.size w1 w' ∧ ∀ b o, b < w1.heap.size → w'.cell? ⟨b, o, none⟩ = w1.cell? ⟨b, o, none⟩ by assumption).1
  have BE2 := Lib.hid (BE1.out.trans (hS.mono BE1.out.size))
  go_wp2_with fail
  go_ret3
  exact ⟨rfl, BE2.out⟩
set_option maxRecDepth 100000 in
set_option maxHeartbeats 1600000 in
theorem rlocal_in (o : Int) (p : Option Addr) (cs : List (Int × Int)) (cap : Nat) (t : Int) (w : World) (hch : Chg w p cs) (h : Zn.Ok o cs) (ht : 0 ≤ t ∧ t ≤ 105190559) (hl0 : ¬ t + Zn.offAt o cs t < 0) (hl : ¬ 105190559 < t + Zn.offAt o cs t) :
    Calls Try.prog 12 #[.agg #[.int .i64 o, .slice p cs.length cap], .int .i64 t] w fun e w' => e = .returned (R3 (Zn.localS o cs t)) ∧ Below w.heap.size w w' := by
  have HC := Lib.hid hch
  have hbd := Zn.offAt_bd cs 0 o t h.1 h.2.1 h.2.2.2
  obtain ⟨k, hk⟩ : ∃ k, Zn.seg cs t = k := ⟨_, rfl⟩
  obtain ⟨v, hv⟩ : ∃ v, v = Zn.offAt o cs t := ⟨_, rfl⟩
  have hkv : v = Zn.offs o cs k := by rw [hv, ← hk, Zn.offs_seg]
  rw [← hv] at hbd hl hl0
  have hlen := h.2.2.1
  have HN := Lib.hid (show cs.length ≤ 100 by omega)
  have HKN := Lib.hid (show k ≤ cs.length by rw [← hk]; exact Zn.seg_le cs t)
  have HK := Lib.hid hk
  have HKV := Lib.hid hkv
  have H := Lib.hid h
  obtain ⟨L, hL⟩ : ∃ L, L = t + v := ⟨_, rfl⟩
  have wl : wrap64 (t + v) = L := by rw [hL]; exact wrap_in (by omega) (by omega)
  rw [← hL] at hl hl0
  have ht1 : ¬ t < 0 := by omega
  have ht2 : ¬ 105190559 < t := by omega
  have hr : Zn.localS o cs t = (L / 1440, L % 1440, 0) := by
    rw [Zn.local_ok ⟨h, ht⟩ (by rw [← hv, ← hL]; omega), ← hv, ← hL]
  rw [hr]
  obtain ⟨q, hq⟩ : ∃ q, q = L / 1440 := ⟨_, rfl⟩
  obtain ⟨m, hm⟩ : ∃ m, m = L % 1440 := ⟨_, rfl⟩
  have e1 : L.tdiv 1440 = q := by rw [tdiv_pos (by omega), hq]
  have e2 : L.tmod 1440 = m := by rw [tmod_pos (by omega), hm]
  have e3 : wrap64 q = q := wrap_in (by omega) (by omega)
  rw [← hq, ← hm]
  clear hch h hk hv hkv hbd hlen hL ht hr hq hm
  go_enter Try.func12, Try.ntmps12
  go_wp2_with fail
  refine (rvalid_yes (HC.out.below (by repeat (first | exact Below.refl _ _ | assumption | refine below_drewN ?_ _ | refine Below.setCell ?_ (by first | (simp; done) | (simp; omega)) _ | refine Below.alloc ?_ (by first | (simp; done) | (simp; omega) | omega) _ | refine Below.drew ?_ | refine Below.trans ?_ (Below.mono (by assumption) (by first | (simp; done) | (simp; omega) | omega))))) H.out).mono ?_
  rintro e w1 ⟨rfl, hb1⟩
  have hz1 := hb1.size
  (try simp at hz1)
  have c1 : w1.cell? ⟨w.heap.size, 0, none⟩ = some (.int .i64 o) := cell_keep hb1 (by go_simp)
  have c2 : w1.cell? ⟨w.heap.size, 1, none⟩ = some (.slice p cs.length cap) := cell_keep hb1 (by go_simp)
  have be1 : Below w.heap.size w w1 := (by repeat (first | exact Below.refl _ _ | assumption | refine below_drewN ?_ _ | refine Below.setCell ?_ (by first | (simp; done) | (simp; omega)) _ | refine Below.alloc ?_ (by first | (simp; done) | (simp; omega) | omega) _ | refine Below.drew ?_ | refine Below.trans ?_ (Below.mono (by assumption) (by first | (simp; done) | (simp; omega) | omega))))
  have hc1 := HC.out.below be1
  have HC1 := Lib.hid hc1
  have BE1 := Lib.hid be1
  have lz : w.heap.size < w1.heap.size := by omega
  clear hb1 be1 hc1
  go_wp2_with fail
  go_region_held3 (fun w' => Below w1.heap.size w1 w' ∧ ∀ b o, b < w1.heap.size → w'.cell? ⟨b, o, none⟩ = w1.cell? ⟨b, o, none⟩) (first | assumption | exact rholdT (by assumption) (by assumption) | exact rholdS (by repeat (first | exact Below.refl _ _ | assumption | refine below_drewN ?_ _ | refine Below.setCell ?_ (by first | (simp; done) | (simp; omega)) _ | refine Below.alloc ?_ (by first | (simp; done) | (simp; omega) | omega) _ | refine Below.drew ?_ | refine Below.trans ?_ (Below.mono (by assumption) (by first | (simp; done) | (simp; omega) | omega)))))
    (first | (go_at_call 27; refine (rsegment_calls o p cs cap t _ HN.out (HC1.out.below (by repeat (first | exact Below.refl _ _ | assumption | refine below_drewN ?_ _ | refine Below.setCell ?_ (by first | (simp; done) | (simp; omega)) _ | refine Below.alloc ?_ (by first | (simp; done) | (simp; omega) | omega) _ | refine Below.drew ?_ | refine Below.trans ?_ (Below.mono (by assumption) (by first | (simp; done) | (simp; omega) | omega)))))).mono ?_; rintro e w' ⟨rfl, hb'⟩; rw [HK.out]) | (go_at_call 26; refine (roffset_k o p cs cap k v _ HKV.out HKN.out HN.out (HC1.out.below (by repeat (first | exact Below.refl _ _ | assumption | refine below_drewN ?_ _ | refine Below.setCell ?_ (by first | (simp; done) | (simp; omega)) _ | refine Below.alloc ?_ (by first | (simp; done) | (simp; omega) | omega) _ | refine Below.drew ?_ | refine Below.trans ?_ (Below.mono (by assumption) (by first | (simp; done) | (simp; omega) | omega)))))).mono ?_; rintro e w' ⟨rfl, hb'⟩))
  have hS := (show Below w1.heap.size w1 w' ∧ ∀ b o, b < w1.heap.size → w'.cell? ⟨b, o, none⟩ = w1.cell? ⟨b, o, none⟩ by assumption).1
  have BE2 := Lib.hid (BE1.out.trans (hS.mono BE1.out.size))
  go_wp2_with fail
  go_ret3
  exact ⟨by first | rfl | (rw [e3]; rfl), BE2.out⟩
theorem rlocal_calls (o : Int) (p : Option Addr) (cs : List (Int × Int)) (cap : Nat) (t : Int) (w : World) (hch : Chg w p cs) : Calls Try.prog 12 #[.agg #[.int .i64 o, .slice p cs.length cap], .int .i64 t] w fun e w' => e = .returned (R3 (Zn.localS o cs t)) ∧ Below w.heap.size w w' := by
  by_cases h : Zn.Ok o cs
  · by_cases h1 : t < 0
    · exact rlocal_low o p cs cap t w hch h h1
    by_cases h2 : 105190559 < t
    · exact rlocal_high o p cs cap t w hch h h1 h2
    by_cases h3 : t + Zn.offAt o cs t < 0
    · exact rlocal_before o p cs cap t w hch h ⟨by omega, by omega⟩ h3
    by_cases h4 : 105190559 < t + Zn.offAt o cs t
    · exact rlocal_behind o p cs cap t w hch h ⟨by omega, by omega⟩ h3 h4
    exact rlocal_in o p cs cap t w hch h ⟨by omega, by omega⟩ h3 h4
  · exact rlocal_bad o p cs cap t w hch h
set_option maxHeartbeats 1600000 in
theorem rgood_calls (o : Int) (p : Option Addr) (cs : List (Int × Int)) (cap : Nat) (d m : Int) (w : World) (hch : Chg w p cs) :
    Calls Try.prog 30 #[.agg #[.int .i64 o, .slice p cs.length cap], .int .i64 d, .int .i64 m] w fun e w' => e = .returned (.bool (decide (Zn.good o cs d m))) ∧ Below w.heap.size w w' := by
  have HC := Lib.hid hch
  clear hch
  by_cases h : Zn.Ok o cs
  · have H := Lib.hid h
    clear h
    by_cases h0 : 0 ≤ d
    · by_cases h1 : d ≤ 73048
      · by_cases h2 : 0 ≤ m
        · by_cases h3 : m ≤ 1439
          · rw [decide_eq_true (show Zn.good o cs d m from ⟨H.out, h0, h1, h2, h3⟩)]
            go_enter Try.func30, Try.ntmps30
            go_wp2_with fail
            refine (rvalid_yes (HC.out.below (by repeat (first | exact Below.refl _ _ | assumption | refine below_drewN ?_ _ | refine Below.setCell ?_ (by first | (simp; done) | (simp; omega)) _ | refine Below.alloc ?_ (by first | (simp; done) | (simp; omega) | omega) _ | refine Below.drew ?_ | refine Below.trans ?_ (Below.mono (by assumption) (by first | (simp; done) | (simp; omega) | omega))))) H.out).mono ?_
            rintro e w1 ⟨rfl, hb1⟩
            go_wp2_with fail
            go_ret
            exact ⟨by first | rfl | exact ret_bool (decide_eq_true (by omega)) | exact ret_bool (decide_eq_false (by omega)), (by repeat (first | exact Below.refl _ _ | assumption | refine below_drewN ?_ _ | refine Below.setCell ?_ (by first | (simp; done) | (simp; omega)) _ | refine Below.alloc ?_ (by first | (simp; done) | (simp; omega) | omega) _ | refine Below.drew ?_ | refine Below.trans ?_ (Below.mono (by assumption) (by first | (simp; done) | (simp; omega) | omega))))⟩
          · rw [decide_eq_false (show ¬ Zn.good o cs d m from fun g => h3 g.2.2.2.2)]
            go_enter Try.func30, Try.ntmps30
            go_wp2_with fail
            refine (rvalid_yes (HC.out.below (by repeat (first | exact Below.refl _ _ | assumption | refine below_drewN ?_ _ | refine Below.setCell ?_ (by first | (simp; done) | (simp; omega)) _ | refine Below.alloc ?_ (by first | (simp; done) | (simp; omega) | omega) _ | refine Below.drew ?_ | refine Below.trans ?_ (Below.mono (by assumption) (by first | (simp; done) | (simp; omega) | omega))))) H.out).mono ?_
            rintro e w1 ⟨rfl, hb1⟩
            go_wp2_with fail
            go_ret
            exact ⟨by first | rfl | exact ret_bool (decide_eq_true (by omega)) | exact ret_bool (decide_eq_false (by omega)), (by repeat (first | exact Below.refl _ _ | assumption | refine below_drewN ?_ _ | refine Below.setCell ?_ (by first | (simp; done) | (simp; omega)) _ | refine Below.alloc ?_ (by first | (simp; done) | (simp; omega) | omega) _ | refine Below.drew ?_ | refine Below.trans ?_ (Below.mono (by assumption) (by first | (simp; done) | (simp; omega) | omega))))⟩
        · rw [decide_eq_false (show ¬ Zn.good o cs d m from fun g => h2 g.2.2.2.1)]
          go_enter Try.func30, Try.ntmps30
          go_wp2_with fail
          refine (rvalid_yes (HC.out.below (by repeat (first | exact Below.refl _ _ | assumption | refine below_drewN ?_ _ | refine Below.setCell ?_ (by first | (simp; done) | (simp; omega)) _ | refine Below.alloc ?_ (by first | (simp; done) | (simp; omega) | omega) _ | refine Below.drew ?_ | refine Below.trans ?_ (Below.mono (by assumption) (by first | (simp; done) | (simp; omega) | omega))))) H.out).mono ?_
          rintro e w1 ⟨rfl, hb1⟩
          go_wp2_with fail
          go_ret
          exact ⟨by first | rfl | exact ret_bool (decide_eq_true (by omega)) | exact ret_bool (decide_eq_false (by omega)), (by repeat (first | exact Below.refl _ _ | assumption | refine below_drewN ?_ _ | refine Below.setCell ?_ (by first | (simp; done) | (simp; omega)) _ | refine Below.alloc ?_ (by first | (simp; done) | (simp; omega) | omega) _ | refine Below.drew ?_ | refine Below.trans ?_ (Below.mono (by assumption) (by first | (simp; done) | (simp; omega) | omega))))⟩
      · rw [decide_eq_false (show ¬ Zn.good o cs d m from fun g => h1 g.2.2.1)]
        go_enter Try.func30, Try.ntmps30
        go_wp2_with fail
        refine (rvalid_yes (HC.out.below (by repeat (first | exact Below.refl _ _ | assumption | refine below_drewN ?_ _ | refine Below.setCell ?_ (by first | (simp; done) | (simp; omega)) _ | refine Below.alloc ?_ (by first | (simp; done) | (simp; omega) | omega) _ | refine Below.drew ?_ | refine Below.trans ?_ (Below.mono (by assumption) (by first | (simp; done) | (simp; omega) | omega))))) H.out).mono ?_
        rintro e w1 ⟨rfl, hb1⟩
        go_wp2_with fail
        go_ret
        exact ⟨by first | rfl | exact ret_bool (decide_eq_true (by omega)) | exact ret_bool (decide_eq_false (by omega)), (by repeat (first | exact Below.refl _ _ | assumption | refine below_drewN ?_ _ | refine Below.setCell ?_ (by first | (simp; done) | (simp; omega)) _ | refine Below.alloc ?_ (by first | (simp; done) | (simp; omega) | omega) _ | refine Below.drew ?_ | refine Below.trans ?_ (Below.mono (by assumption) (by first | (simp; done) | (simp; omega) | omega))))⟩
    · rw [decide_eq_false (show ¬ Zn.good o cs d m from fun g => h0 g.2.1)]
      go_enter Try.func30, Try.ntmps30
      go_wp2_with fail
      refine (rvalid_yes (HC.out.below (by repeat (first | exact Below.refl _ _ | assumption | refine below_drewN ?_ _ | refine Below.setCell ?_ (by first | (simp; done) | (simp; omega)) _ | refine Below.alloc ?_ (by first | (simp; done) | (simp; omega) | omega) _ | refine Below.drew ?_ | refine Below.trans ?_ (Below.mono (by assumption) (by first | (simp; done) | (simp; omega) | omega))))) H.out).mono ?_
      rintro e w1 ⟨rfl, hb1⟩
      go_wp2_with fail
      go_ret
      exact ⟨by first | rfl | exact ret_bool (decide_eq_true (by omega)) | exact ret_bool (decide_eq_false (by omega)), (by repeat (first | exact Below.refl _ _ | assumption | refine below_drewN ?_ _ | refine Below.setCell ?_ (by first | (simp; done) | (simp; omega)) _ | refine Below.alloc ?_ (by first | (simp; done) | (simp; omega) | omega) _ | refine Below.drew ?_ | refine Below.trans ?_ (Below.mono (by assumption) (by first | (simp; done) | (simp; omega) | omega))))⟩
  · rw [decide_eq_false (show ¬ Zn.good o cs d m from fun g => h g.1)]
    have H := Lib.hid h
    clear h
    go_enter Try.func30, Try.ntmps30
    go_wp2_with fail
    refine (rvalid_no (HC.out.below (by repeat (first | exact Below.refl _ _ | assumption | refine below_drewN ?_ _ | refine Below.setCell ?_ (by first | (simp; done) | (simp; omega)) _ | refine Below.alloc ?_ (by first | (simp; done) | (simp; omega) | omega) _ | refine Below.drew ?_ | refine Below.trans ?_ (Below.mono (by assumption) (by first | (simp; done) | (simp; omega) | omega))))) H.out).mono ?_
    rintro e w1 ⟨rfl, hb1⟩
    go_wp2_with fail
    go_ret
    exact ⟨by first | rfl | exact ret_bool (decide_eq_true (by omega)) | exact ret_bool (decide_eq_false (by omega)), (by repeat (first | exact Below.refl _ _ | assumption | refine below_drewN ?_ _ | refine Below.setCell ?_ (by first | (simp; done) | (simp; omega)) _ | refine Below.alloc ?_ (by first | (simp; done) | (simp; omega) | omega) _ | refine Below.drew ?_ | refine Below.trans ?_ (Below.mono (by assumption) (by first | (simp; done) | (simp; omega) | omega))))⟩
end Go.Proofs.Ytcacmigfpahicaa

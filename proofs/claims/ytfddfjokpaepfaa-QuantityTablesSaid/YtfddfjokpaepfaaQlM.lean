/- QuantityTables: the walk of the law. -/
import Derived.Test.YtfddfjokpaepfaaQlK
namespace Go.Proofs.Ytfddfjokpaepfaa
open Go.RowKit

theorem qvalid_gen (p : Option Addr) (cap n : Nat) (xs : List Qn.Un) (vi : Int) (vb : Bool) (w : World) (ht : Tab w p xs) (hn : n = xs.length) (hcap : n ≤ cap) (h : Qn.validS xs = (vi, vb)) :
    Calls Try.prog 13 #[.slice p n cap] w fun e w' => e = .returned (.tuple #[.int .i64 vi, .bool vb]) ∧ Below w.heap.size w w' := by
  subst hn
  refine (qvalid_any p cap xs w ht hcap).mono ?_
  rintro e w' ⟨rfl, hb⟩
  rw [h]
  exact ⟨rfl, hb⟩
theorem made_urow {w1 : World} {g base n : Nat} (hn : n ≤ 20) (h : w1.ownsRow base 42 5 (.slice (some ⟨g, 0, none⟩) n n) n (madeCells #[.string ⟨#[]⟩, .int .i64 0, .int .i64 0, .int .i64 0, .int .i64 0] (n * 5)).toList) : URow w1 g (List.replicate n ZU) := by
  rw [made_units n hn] at h
  obtain ⟨_, ⟨h1, _⟩ | ⟨g', cap, cur, h1, _, h2, _, _, _, h4⟩⟩ := h
  · cases h1
  · cases h1
    exact ⟨cur, h2, by rw [List.length_replicate]; exact h4⟩
theorem cat_text (a c : List UInt8) : (⟨a.toArray⟩ : ByteArray) ++ ⟨c.toArray⟩ = ⟨(a ++ c).toArray⟩ := by
  apply ByteArray.ext
  simp
theorem row_round {w w6 : World} {gx gy j : Nat} {l ys : List Qn.Un} {o : Obj} {v : Qn.Un} (hx : URow w6 gx l) (hy : URow w6 gy ys) (hb : Below w.heap.size w w6) (hn : gx ≠ gy) (hg : w.heap.size ≤ gy) (hj : j < ys.length) :
    URow ((((((w6.setCell ⟨gy, j * 5, none⟩ (.string ⟨v.nm.toArray⟩)).setCell ⟨gy, j * 5 + 1, none⟩ (.int .i64 v.kd)).setCell ⟨gy, j * 5 + 2, none⟩ (.int .i64 v.base)).setCell ⟨gy, j * 5 + 3, none⟩ (.int .i64 v.fac.1)).setCell ⟨gy, j * 5 + 4, none⟩ (.int .i64 v.fac.2)).alloc o).drew gx l ∧
    URow ((((((w6.setCell ⟨gy, j * 5, none⟩ (.string ⟨v.nm.toArray⟩)).setCell ⟨gy, j * 5 + 1, none⟩ (.int .i64 v.kd)).setCell ⟨gy, j * 5 + 2, none⟩ (.int .i64 v.base)).setCell ⟨gy, j * 5 + 3, none⟩ (.int .i64 v.fac.1)).setCell ⟨gy, j * 5 + 4, none⟩ (.int .i64 v.fac.2)).alloc o).drew gy (ys.set j v) ∧
    Below w.heap.size w ((((((w6.setCell ⟨gy, j * 5, none⟩ (.string ⟨v.nm.toArray⟩)).setCell ⟨gy, j * 5 + 1, none⟩ (.int .i64 v.kd)).setCell ⟨gy, j * 5 + 2, none⟩ (.int .i64 v.base)).setCell ⟨gy, j * 5 + 3, none⟩ (.int .i64 v.fac.1)).setCell ⟨gy, j * 5 + 4, none⟩ (.int .i64 v.fac.2)).alloc o).drew := by
  have h1 := (((((hx.put (i := j * 5) (v := .string ⟨v.nm.toArray⟩) hn.symm).put (i := j * 5 + 1) (v := .int .i64 v.kd) hn.symm).put (i := j * 5 + 2) (v := .int .i64 v.base) hn.symm).put (i := j * 5 + 3) (v := .int .i64 v.fac.1) hn.symm).put (i := j * 5 + 4) (v := .int .i64 v.fac.2) hn.symm)
  have h2 := hy.set hj v
  have h3 := ((((hb.setCell (p := ⟨gy, j * 5, none⟩) hg (.string ⟨v.nm.toArray⟩)).setCell (p := ⟨gy, j * 5 + 1, none⟩) hg (.int .i64 v.kd)).setCell (p := ⟨gy, j * 5 + 2, none⟩) hg (.int .i64 v.base)).setCell (p := ⟨gy, j * 5 + 3, none⟩) hg (.int .i64 v.fac.1)).setCell (p := ⟨gy, j * 5 + 4, none⟩) hg (.int .i64 v.fac.2)
  refine ⟨h1.below ?_, h2.below ?_, Below.drew (h3.alloc h3.size o)⟩
  · exact Below.drew ((Below.refl _ _).alloc (Nat.le_refl _) o)
  · exact Below.drew ((Below.refl _ _).alloc (Nat.le_refl _) o)
theorem half_full (t : List UInt8) (us : List Qn.Un) : half t us us.length = us.map (Qn.nam t) := by unfold half; rw [List.take_length, List.drop_length, List.append_nil]
theorem half_zero (t : List UInt8) (us : List Qn.Un) : half t us 0 = us := rfl
theorem set_same {l : List Qn.Un} {k : Nat} {u : Qn.Un} (h : l[k]? = some u) : l.set k u = l := by
  obtain ⟨hk, rfl⟩ := List.getElem?_eq_some_iff.1 h
  exact List.set_getElem_self hk
theorem half_skip {t : List UInt8} {us : List Qn.Un} {k : Nat} {u : Qn.Un} (h : us[k]? = some u) (hn : u.nm = []) : half t us (k + 1) = half t us k := by
  rw [← half_next h, show Qn.nam t u = u by unfold Qn.nam; rw [if_pos hn]]
  exact set_same (half_get h)
theorem half_name {t : List UInt8} {us : List Qn.Un} {k : Nat} {u : Qn.Un} (h : us[k]? = some u) (hn : u.nm ≠ []) : (half t us k).set k { u with nm := u.nm ++ t } = half t us (k + 1) := by
  rw [← half_next h, show Qn.nam t u = _ by unfold Qn.nam; rw [if_neg hn]]
theorem tab_rows {w : World} {b o : Nat} {us : List Qn.Un} (h : Tab w (some ⟨b, o, none⟩) us) (hn : us ≠ []) : ∀ (j : Nat) u, us[j]? = some u → UCell w b (o + j * 5) u := by
  rcases h.2 with h | ⟨b', o', hp, h⟩
  · exact absurd h hn
  · cases hp; exact h
set_option maxRecDepth 100000 in
set_option maxHeartbeats 1600000 in
theorem tables_big (p : Option Addr) (cap : Nat) (us : List Qn.Un) (tx : List UInt8) (b : Int) (w : World) (ht : Tab w p us) (hs : smallB us 0 = false) :
    Calls Try.prog 4 #[.slice p us.length cap, .string ⟨tx.toArray⟩, .int .u8 b] w fun e w' => e = .returned (.bool true) ∧ Below w.heap.size w w' := by
  have HT0 := Lib.hid ht
  clear ht
  have HS := Lib.hid hs
  clear hs
  go_enter Try.func4, Try.ntmps4
  go_wp2_with fail
  refine (head_any _).mono ?_
  rintro e w1 ⟨rfl, hb1⟩
  have hz1 := hb1.size
  (try simp at hz1)
  have bb1 : Below w.heap.size w w1 := (by repeat (first | exact Below.refl _ _ | assumption | refine below_drewN ?_ _ | refine Below.setCell ?_ (by first | (simp; done) | (simp; omega)) _ | refine Below.alloc ?_ (by first | (simp; done) | (simp; omega) | omega) _ | refine Below.drew ?_ | refine Below.trans ?_ (Below.mono (by assumption) (by first | (simp; done) | (simp; omega) | omega))))
  have be1 : Below w.heap.size w w1 := bb1
  have HT1 := Lib.hid (HT0.out.below bb1)
  have BE1 := Lib.hid be1
  clear be1 bb1 hb1 HT0
  go_wp2_with fail
  refine (small_any p none cap 0 0 us false _ (HT1.out.below (by repeat (first | exact Below.refl _ _ | assumption | refine below_drewN ?_ _ | refine Below.setCell ?_ (by first | (simp; done) | (simp; omega)) _ | refine Below.alloc ?_ (by first | (simp; done) | (simp; omega) | omega) _ | refine Below.drew ?_ | refine Below.trans ?_ (Below.mono (by assumption) (by first | (simp; done) | (simp; omega) | omega))))) HS.out).mono ?_
  rintro e w2 ⟨rfl, hb2⟩
  have hz2 := hb2.size
  (try simp at hz2)
  have bb2 : Below w1.heap.size w1 w2 := (by repeat (first | exact Below.refl _ _ | assumption | refine below_drewN ?_ _ | refine Below.setCell ?_ (by first | (simp; done) | (simp; omega)) _ | refine Below.alloc ?_ (by first | (simp; done) | (simp; omega) | omega) _ | refine Below.drew ?_ | refine Below.trans ?_ (Below.mono (by assumption) (by first | (simp; done) | (simp; omega) | omega))))
  have be2 : Below w.heap.size w w2 := BE1.out.trans (bb2.mono BE1.out.size)
  have HT2 := Lib.hid (HT1.out.below bb2)
  have BE2 := Lib.hid be2
  clear be2 bb2 hb2 BE1 HT1
  go_wp2_with fail
  go_ret
  exact ⟨rfl, (by have q := BE2.out; repeat (first | exact q | refine Below.setCell ?_ (by first | (simp; done) | omega | (simp; omega)) _ | refine Below.alloc ?_ (by first | (simp; done) | omega | (simp; omega)) _ | refine below_drewN ?_ _ | refine Below.drew ?_))⟩
set_option maxRecDepth 100000 in
set_option maxHeartbeats 1600000 in
theorem tables_nil (p : Option Addr) (cap : Nat) (us : List Qn.Un) (tx : List UInt8) (b : Int) (w : World) (ht : Tab w p us) (hs : smallB us 0 = true) (hn : ((us.length : Int) == 0) = true) :
    Calls Try.prog 4 #[.slice p us.length cap, .string ⟨tx.toArray⟩, .int .u8 b] w fun e w' => e = .returned (.bool true) ∧ Below w.heap.size w w' := by
  have HT0 := Lib.hid ht
  clear ht
  have HS := Lib.hid hs
  clear hs
  go_enter Try.func4, Try.ntmps4
  go_wp2_with fail
  refine (head_any _).mono ?_
  rintro e w1 ⟨rfl, hb1⟩
  have hz1 := hb1.size
  (try simp at hz1)
  have bb1 : Below w.heap.size w w1 := (by repeat (first | exact Below.refl _ _ | assumption | refine below_drewN ?_ _ | refine Below.setCell ?_ (by first | (simp; done) | (simp; omega)) _ | refine Below.alloc ?_ (by first | (simp; done) | (simp; omega) | omega) _ | refine Below.drew ?_ | refine Below.trans ?_ (Below.mono (by assumption) (by first | (simp; done) | (simp; omega) | omega))))
  have be1 : Below w.heap.size w w1 := bb1
  have HT1 := Lib.hid (HT0.out.below bb1)
  have BE1 := Lib.hid be1
  clear be1 bb1 hb1 HT0
  go_wp2_with fail
  refine (small_any p none cap 0 0 us true _ (HT1.out.below (by repeat (first | exact Below.refl _ _ | assumption | refine below_drewN ?_ _ | refine Below.setCell ?_ (by first | (simp; done) | (simp; omega)) _ | refine Below.alloc ?_ (by first | (simp; done) | (simp; omega) | omega) _ | refine Below.drew ?_ | refine Below.trans ?_ (Below.mono (by assumption) (by first | (simp; done) | (simp; omega) | omega))))) HS.out).mono ?_
  rintro e w2 ⟨rfl, hb2⟩
  have hz2 := hb2.size
  (try simp at hz2)
  have bb2 : Below w1.heap.size w1 w2 := (by repeat (first | exact Below.refl _ _ | assumption | refine below_drewN ?_ _ | refine Below.setCell ?_ (by first | (simp; done) | (simp; omega)) _ | refine Below.alloc ?_ (by first | (simp; done) | (simp; omega) | omega) _ | refine Below.drew ?_ | refine Below.trans ?_ (Below.mono (by assumption) (by first | (simp; done) | (simp; omega) | omega))))
  have be2 : Below w.heap.size w w2 := BE1.out.trans (bb2.mono BE1.out.size)
  have HT2 := Lib.hid (HT1.out.below bb2)
  have BE2 := Lib.hid be2
  clear be2 bb2 hb2 BE1 HT1
  go_wp2_with fail
  go_ret
  exact ⟨rfl, (by have q := BE2.out; repeat (first | exact q | refine Below.setCell ?_ (by first | (simp; done) | omega | (simp; omega)) _ | refine Below.alloc ?_ (by first | (simp; done) | omega | (simp; omega)) _ | refine below_drewN ?_ _ | refine Below.drew ?_))⟩
set_option maxRecDepth 100000 in
set_option maxHeartbeats 1600000 in
theorem tables_long (p : Option Addr) (cap : Nat) (us : List Qn.Un) (tx : List UInt8) (b : Int) (w : World) (ht : Tab w p us) (hs : smallB us 0 = true) (hn : ((us.length : Int) == 0) = false) (hn2 : 20 < us.length) :
    Calls Try.prog 4 #[.slice p us.length cap, .string ⟨tx.toArray⟩, .int .u8 b] w fun e w' => e = .returned (.bool true) ∧ Below w.heap.size w w' := by
  have HT0 := Lib.hid ht
  clear ht
  have HS := Lib.hid hs
  clear hs
  go_enter Try.func4, Try.ntmps4
  go_wp2_with fail
  refine (head_any _).mono ?_
  rintro e w1 ⟨rfl, hb1⟩
  have hz1 := hb1.size
  (try simp at hz1)
  have bb1 : Below w.heap.size w w1 := (by repeat (first | exact Below.refl _ _ | assumption | refine below_drewN ?_ _ | refine Below.setCell ?_ (by first | (simp; done) | (simp; omega)) _ | refine Below.alloc ?_ (by first | (simp; done) | (simp; omega) | omega) _ | refine Below.drew ?_ | refine Below.trans ?_ (Below.mono (by assumption) (by first | (simp; done) | (simp; omega) | omega))))
  have be1 : Below w.heap.size w w1 := bb1
  have HT1 := Lib.hid (HT0.out.below bb1)
  have BE1 := Lib.hid be1
  clear be1 bb1 hb1 HT0
  go_wp2_with fail
  refine (small_any p none cap 0 0 us true _ (HT1.out.below (by repeat (first | exact Below.refl _ _ | assumption | refine below_drewN ?_ _ | refine Below.setCell ?_ (by first | (simp; done) | (simp; omega)) _ | refine Below.alloc ?_ (by first | (simp; done) | (simp; omega) | omega) _ | refine Below.drew ?_ | refine Below.trans ?_ (Below.mono (by assumption) (by first | (simp; done) | (simp; omega) | omega))))) HS.out).mono ?_
  rintro e w2 ⟨rfl, hb2⟩
  have hz2 := hb2.size
  (try simp at hz2)
  have bb2 : Below w1.heap.size w1 w2 := (by repeat (first | exact Below.refl _ _ | assumption | refine below_drewN ?_ _ | refine Below.setCell ?_ (by first | (simp; done) | (simp; omega)) _ | refine Below.alloc ?_ (by first | (simp; done) | (simp; omega) | omega) _ | refine Below.drew ?_ | refine Below.trans ?_ (Below.mono (by assumption) (by first | (simp; done) | (simp; omega) | omega))))
  have be2 : Below w.heap.size w w2 := BE1.out.trans (bb2.mono BE1.out.size)
  have HT2 := Lib.hid (HT1.out.below bb2)
  have BE2 := Lib.hid be2
  clear be2 bb2 hb2 BE1 HT1
  go_wp2_with fail
  go_ret
  exact ⟨rfl, (by have q := BE2.out; repeat (first | exact q | refine Below.setCell ?_ (by first | (simp; done) | omega | (simp; omega)) _ | refine Below.alloc ?_ (by first | (simp; done) | omega | (simp; omega)) _ | refine below_drewN ?_ _ | refine Below.drew ?_))⟩
set_option maxRecDepth 100000 in
set_option maxHeartbeats 1600000 in
theorem tables_text (p : Option Addr) (cap : Nat) (us : List Qn.Un) (tx : List UInt8) (b : Int) (w : World) (ht : Tab w p us) (hs : smallB us 0 = true) (hn : ((us.length : Int) == 0) = false) (hn2 : us.length ≤ 20) (hx : 100 < tx.length) :
    Calls Try.prog 4 #[.slice p us.length cap, .string ⟨tx.toArray⟩, .int .u8 b] w fun e w' => e = .returned (.bool true) ∧ Below w.heap.size w w' := by
  have HT0 := Lib.hid ht
  clear ht
  have HS := Lib.hid hs
  clear hs
  go_enter Try.func4, Try.ntmps4
  go_wp2_with fail
  refine (head_any _).mono ?_
  rintro e w1 ⟨rfl, hb1⟩
  have hz1 := hb1.size
  (try simp at hz1)
  have bb1 : Below w.heap.size w w1 := (by repeat (first | exact Below.refl _ _ | assumption | refine below_drewN ?_ _ | refine Below.setCell ?_ (by first | (simp; done) | (simp; omega)) _ | refine Below.alloc ?_ (by first | (simp; done) | (simp; omega) | omega) _ | refine Below.drew ?_ | refine Below.trans ?_ (Below.mono (by assumption) (by first | (simp; done) | (simp; omega) | omega))))
  have be1 : Below w.heap.size w w1 := bb1
  have HT1 := Lib.hid (HT0.out.below bb1)
  have BE1 := Lib.hid be1
  clear be1 bb1 hb1 HT0
  go_wp2_with fail
  refine (small_any p none cap 0 0 us true _ (HT1.out.below (by repeat (first | exact Below.refl _ _ | assumption | refine below_drewN ?_ _ | refine Below.setCell ?_ (by first | (simp; done) | (simp; omega)) _ | refine Below.alloc ?_ (by first | (simp; done) | (simp; omega) | omega) _ | refine Below.drew ?_ | refine Below.trans ?_ (Below.mono (by assumption) (by first | (simp; done) | (simp; omega) | omega))))) HS.out).mono ?_
  rintro e w2 ⟨rfl, hb2⟩
  have hz2 := hb2.size
  (try simp at hz2)
  have bb2 : Below w1.heap.size w1 w2 := (by repeat (first | exact Below.refl _ _ | assumption | refine below_drewN ?_ _ | refine Below.setCell ?_ (by first | (simp; done) | (simp; omega)) _ | refine Below.alloc ?_ (by first | (simp; done) | (simp; omega) | omega) _ | refine Below.drew ?_ | refine Below.trans ?_ (Below.mono (by assumption) (by first | (simp; done) | (simp; omega) | omega))))
  have be2 : Below w.heap.size w w2 := BE1.out.trans (bb2.mono BE1.out.size)
  have HT2 := Lib.hid (HT1.out.below bb2)
  have BE2 := Lib.hid be2
  clear be2 bb2 hb2 BE1 HT1
  go_wp2_with fail
  go_ret
  exact ⟨rfl, (by have q := BE2.out; repeat (first | exact q | refine Below.setCell ?_ (by first | (simp; done) | omega | (simp; omega)) _ | refine Below.alloc ?_ (by first | (simp; done) | omega | (simp; omega)) _ | refine below_drewN ?_ _ | refine Below.drew ?_))⟩
set_option maxRecDepth 100000 in
set_option maxHeartbeats 3200000 in
theorem tables_go (bp offp : Nat) (cap : Nat) (us : List Qn.Un) (tx : List UInt8) (b : Int) (rr : Nat) (vi : Int) (vb : Bool) (w : World) (ht : Tab w (some ⟨bp, offp, none⟩) us) (hcap : us.length ≤ cap) (hs : smallB us 0 = true) (hb0 : 0 ≤ b) (hb1 : b ≤ 255) (hn : ((us.length : Int) == 0) = false) (hnz : 0 < us.length) (hn2 : us.length ≤ 20) (hx : tx.length ≤ 100) (hrr : b % (us.length : Int) = (rr : Int)) (hrl : rr < us.length) (hvb : Qn.validS us = (vi, vb)) :
    Calls Try.prog 4 #[.slice (some ⟨bp, offp, none⟩) us.length cap, .string ⟨tx.toArray⟩, .int .u8 b] w fun e w' => e = .returned (.bool true) ∧ Below w.heap.size w w' := by
  have HT0 := Lib.hid ht
  have HTW := HT0
  clear ht
  have HS := Lib.hid hs
  clear hs
  have HRR := Lib.hid hrr
  clear hrr
  have HVB := Lib.hid hvb
  clear hvb
  have HNN := Lib.hid (show us ≠ [] by intro h; rw [h] at hnz; exact absurd hnz (by simp))
  have hne : ¬ (us.length : Int) = 0 := by omega
  have hne2 : ¬ us.length = 0 := by omega
  go_enter Try.func4, Try.ntmps4
  go_wp2_with fail
  refine (head_any _).mono ?_
  rintro e w1 ⟨rfl, hb1⟩
  have hz1 := hb1.size
  (try simp at hz1)
  have bb1 : Below w.heap.size w w1 := (by repeat (first | exact Below.refl _ _ | assumption | refine below_drewN ?_ _ | refine Below.setCell ?_ (by first | (simp; done) | (simp; omega)) _ | refine Below.alloc ?_ (by first | (simp; done) | (simp; omega) | omega) _ | refine Below.drew ?_ | refine Below.trans ?_ (Below.mono (by assumption) (by first | (simp; done) | (simp; omega) | omega))))
  have be1 : Below w.heap.size w w1 := bb1
  have HT1 := Lib.hid (HT0.out.below bb1)
  have BE1 := Lib.hid be1
  clear be1 bb1 hb1 HT0
  go_wp2_with fail
  refine (small_any (some ⟨bp, offp, none⟩) none cap 0 0 us true _ (HT1.out.below (by repeat (first | exact Below.refl _ _ | assumption | refine below_drewN ?_ _ | refine Below.setCell ?_ (by first | (simp; done) | (simp; omega)) _ | refine Below.alloc ?_ (by first | (simp; done) | (simp; omega) | omega) _ | refine Below.drew ?_ | refine Below.trans ?_ (Below.mono (by assumption) (by first | (simp; done) | (simp; omega) | omega))))) HS.out).mono ?_
  rintro e w2 ⟨rfl, hb2⟩
  have hz2 := hb2.size
  (try simp at hz2)
  have bb2 : Below w1.heap.size w1 w2 := (by repeat (first | exact Below.refl _ _ | assumption | refine below_drewN ?_ _ | refine Below.setCell ?_ (by first | (simp; done) | (simp; omega)) _ | refine Below.alloc ?_ (by first | (simp; done) | (simp; omega) | omega) _ | refine Below.drew ?_ | refine Below.trans ?_ (Below.mono (by assumption) (by first | (simp; done) | (simp; omega) | omega))))
  have be2 : Below w.heap.size w w2 := BE1.out.trans (bb2.mono BE1.out.size)
  have HT2 := Lib.hid (HT1.out.below bb2)
  have BE2 := Lib.hid be2
  clear be2 bb2 hb2 BE1 HT1
  go_upto_region 6 with fail
  rw [HRR.out]
  go_wp2_with fail
  refine (qvalid_gen (some ⟨bp, offp, none⟩) cap us.length us vi vb _ (HT2.out.below (by repeat (first | exact Below.refl _ _ | assumption | refine below_drewN ?_ _ | refine Below.setCell ?_ (by first | (simp; done) | (simp; omega)) _ | refine Below.alloc ?_ (by first | (simp; done) | (simp; omega) | omega) _ | refine Below.drew ?_ | refine Below.trans ?_ (Below.mono (by assumption) (by first | (simp; done) | (simp; omega) | omega))))) rfl hcap HVB.out).mono ?_
  rintro e w3 ⟨rfl, hb3⟩
  have hz3 := hb3.size
  (try simp at hz3)
  have bb3 : Below w2.heap.size w2 w3 := (by repeat (first | exact Below.refl _ _ | assumption | refine below_drewN ?_ _ | refine Below.setCell ?_ (by first | (simp; done) | (simp; omega)) _ | refine Below.alloc ?_ (by first | (simp; done) | (simp; omega) | omega) _ | refine Below.drew ?_ | refine Below.trans ?_ (Below.mono (by assumption) (by first | (simp; done) | (simp; omega) | omega))))
  have be3 : Below w.heap.size w w3 := BE2.out.trans (bb3.mono BE2.out.size)
  have HT3 := Lib.hid (HT2.out.below bb3)
  have BE3 := Lib.hid be3
  clear be3 bb3 hb3 BE2 HT2
  have hbz := BE3.out.size
  obtain ⟨i0, hi, hy0, hy1, hy2⟩ := info_parts info_unit
  have HI := Lib.hid hi
  have HY0 := Lib.hid hy0
  have HY1 := Lib.hid hy1
  have HY2 := Lib.hid hy2
  clear hi hy0 hy1 hy2
  have HT9 := Lib.hid (show Tab (w3.alloc (.cells #[] 42)) (some ⟨bp, offp, none⟩) us from HT3.out.below ((Below.refl _ _).alloc (Nat.le_refl _) _))
  have HB9 := Lib.hid (show Below w.heap.size w (w3.alloc (.cells #[] 42)) from BE3.out.alloc hbz _)
  have HO9 := Lib.hid (show (w3.alloc (.cells #[] 42)).ownsRow w.heap.size 42 5 (.slice (some ⟨w3.heap.size, 0, none⟩) 0 0) 0 [] from World.ownsRow_lit w3 #[] 0 hbz (by decide) rfl)
  go_wp2_with (at_builtin; refine wpList_append_own_at _ rfl (.tmp 51) (.tmp 52) 22 rfl w.heap.size 42 i0 (.agg #[.string ⟨#[]⟩, .int .i64 0, .int .i64 0, .int .i64 0, .int .i64 0]) 5 48 Try.underlying22 HI.out HY0.out HY1.out HY2.out rfl (by decide) _ _ _ rfl HO9.out ⟨bp, offp, none⟩ us.length cap (cellsU us) rfl (cellsU_len us) (Tab.news (tab_rows HT9.out HNN.out)) (cellsU_one us) (by simp [maxLen]; omega) (by omega) HB9.out.size ?_)
  intro v8 w8 hown hgrow _ hat
  have hb8 : Below w.heap.size w w8 := HB9.out.grown hgrow HB9.out.size (fun b hb => by simp [Value.ownBlock] at hb; omega)
  obtain ⟨gx, capx, rfl, hcx, hgx, hrx⟩ := own_urow HNN.out (show w8.ownsRow w.heap.size 42 5 v8 us.length (cellsU us) by simpa using hown)
  have HB8 := Lib.hid hb8
  have HX8 := Lib.hid hrx
  have hgx8 := hrx.lt
  clear hown hgrow hat hb8 hrx
  go_wp2_with (at_make; refine wpList_make_full _ rfl (.tmp 54) (.tmp 54) 22 rfl w.heap.size 42 i0 (.agg #[.string ⟨#[]⟩, .int .i64 0, .int .i64 0, .int .i64 0, .int .i64 0]) 5 Try.underlying22 HI.out HY0.out HY1.out .i64 .i64 us.length us.length us.length rfl rfl rfl rfl (by rw [HY2.out]; omega) (by simp [maxLen]; omega) HB8.out.size ?_)
  intro w9 hown hgrow
  have hb9 : Below w8.heap.size w8 w9 := (Below.refl _ _).grown hgrow (Nat.le_refl _) (fun _ h => by cases h)
  obtain ⟨gy, hgy⟩ : ∃ g, g = w8.heap.size := ⟨_, rfl⟩
  rw [← hgy] at hown ⊢
  have HY9 := Lib.hid (made_urow hn2 hown)
  have HX9 := Lib.hid (HX8.out.below hb9)
  have HBN := Lib.hid (HB8.out.trans (hb9.mono HB8.out.size))
  have hxy : gx ≠ gy := by omega
  have hgyw : w.heap.size ≤ gy := by have := HB8.out.size; omega
  clear hown hgrow hb9 hgy
  go_wp2_with fail
  go_loopw [14] (fun i wr => ∃ (k : Nat) (ys : List Qn.Un), i = .int .i64 k ∧ k ≤ us.length ∧ URow wr gx (half tx us k) ∧ URow wr gy ys ∧ Turn us ys rr k ∧ Below w.heap.size w wr) (fun i _ => us.length - (intOf i).toNat)
  case atStart => exact ⟨0, _, rfl, Nat.zero_le _, HX9.out, HY9.out, Turn.start us rr, HBN.out⟩
  case round =>
    obtain ⟨k, ys, rfl, hk, hxr, hyr, htn, hbw⟩ := hrel
    have HXR := Lib.hid hxr
    have HYR := Lib.hid hyr
    have HTN := Lib.hid htn
    have HBW := Lib.hid hbw
    clear hxr hyr htn hbw
    by_cases hlt : k < us.length
    · have hu : us[k]? = some us[k] := List.getElem?_eq_getElem hlt
      generalize us[k] = u at hu
      have HU := Lib.hid hu
      obtain ⟨c0, c1, c2, c3, c4⟩ := tab_rows (HTW.out.below HBW.out) HNN.out k u hu
      obtain ⟨d0, _, _, _, _⟩ := HXR.out.get (half_get (t := tx) hu)
      have f0 := HXR.out.soft (k * 5)
      have hi0 : (0 : Int) ≤ (k : Int) := by omega
      have hi1 : (k : Int) < (us.length : Int) := by omega
      have hun : u.nm.length ≤ 100 := (small_yes HS.out).2.2 u (List.mem_of_getElem? hu)
      clear hu
      have hbl := World.block_lt_of_cell? wr _ c0
      have hgl := World.block_lt_of_cell? wr _ d0
      go_upto_if 66 with fail
      go_cut [14] (fun s14 wx => s14 = .int .i64 k ∧ URow wx gx (half tx us (k + 1)) ∧ URow wx gy ys ∧ Below w.heap.size w wx)
      case first =>
        cases hnb : u.nm.isEmpty
        · have HNE := Lib.hid (show u.nm ≠ [] by intro k; rw [k] at hnb; cases hnb)
          go_wp2_with fail
          go_meet
          exact ⟨rfl, by rw [cat_text, ← half_name HU.out HNE.out]; exact HXR.out.nam (half_get HU.out) _, HYR.out.put hxy, HBW.out.setCell hgx _⟩
        · have HNE := Lib.hid (show u.nm = [] from List.isEmpty_iff.1 hnb)
          go_wp2_with fail
          go_meet
          exact ⟨rfl, by rw [half_skip HU.out HNE.out]; exact HXR.out, HYR.out, HBW.out⟩
      case rest =>
        obtain ⟨rfl, hxr, hyr, hb6⟩ := hcut
        obtain ⟨w6, rfl⟩ : ∃ W, W = wc := ⟨_, rfl⟩
        have HX6 := Lib.hid hxr
        have HY6 := Lib.hid hyr
        have HB6 := Lib.hid hb6
        clear hxr hyr hb6
        obtain ⟨e0, e1, e2, e3, e4⟩ := tab_rows (HTW.out.below HB6.out) HNN.out k u HU.out
        have hbl6 := World.block_lt_of_cell? w6 _ e0
        clear c0 c1 c2 c3 c4 d0 f0
        obtain ⟨jj, hjj⟩ : ∃ jj, jj = (k + rr) % us.length := ⟨_, rfl⟩
        have hjl : jj < us.length := by rw [hjj]; exact Nat.mod_lt _ hnz
        have hkm : ((k : Int) + (rr : Int)) % (us.length : Int) = (jj : Int) := by rw [hjj]; rfl
        have hjl0 : (0 : Int) ≤ (jj : Int) := by omega
        have hjl1 : (jj : Int) < (us.length : Int) := by omega
        have HJ := Lib.hid hjj
        clear hjj
        obtain ⟨y0, hy0⟩ : ∃ y0, ys[jj]? = some y0 := ⟨_, List.getElem?_eq_getElem (by rw [HTN.out.1]; exact hjl)⟩
        obtain ⟨d0, d1, d2, d3, d4⟩ := HY6.out.get hy0
        clear hy0
        have hgl6 := World.block_lt_of_cell? w6 _ d0
        have f0 := HY6.out.soft (jj * 5)
        have f1 := HY6.out.soft (jj * 5 + 1)
        have f2 := HY6.out.soft (jj * 5 + 2)
        have f3 := HY6.out.soft (jj * 5 + 3)
        have f4 := HY6.out.soft (jj * 5 + 4)
        by_cases h0 : 0 ≤ u.base
        · by_cases h1 : u.base < (us.length : Int)
          · obtain ⟨bb, hbb⟩ : ∃ bb, bb = (u.base.toNat + rr) % us.length := ⟨_, rfl⟩
            have hbm : (u.base + (rr : Int)) % (us.length : Int) = (bb : Int) := by
              rw [hbb, show u.base + (rr : Int) = ((u.base.toNat + rr : Nat) : Int) by omega]; rfl
            have hmv : Qn.mov us.length (fun i => (i + rr) % us.length) u = { u with base := (bb : Int) } := by
              rw [hbb]
              unfold Qn.mov
              rw [if_pos ⟨h0, h1⟩]
            have HMV := Lib.hid hmv
            clear hbb hmv
            go_upto_region 17 with fail
            go_region
            all_goals
              go_wp2_with fail
              go_roundw
              case rel =>
                obtain ⟨r1, r2, r3⟩ := row_round (o := .cells #[.string ⟨u.nm.toArray⟩, .int .i64 u.kd, .int .i64 bb, .int .i64 u.fac.1, .int .i64 u.fac.2] 42) (v := { u with base := (bb : Int) }) HX6.out HY6.out HB6.out hxy hgyw (show jj < ys.length by rw [HTN.out.1]; exact hjl)
                exact ⟨k + 1, ys.set jj (Qn.mov us.length (fun i => (i + rr) % us.length) u), by simp, hlt, r1, (by rw [HMV.out]; exact r2), (by rw [HJ.out]; exact HTN.out.next HU.out (HTW.out.1 u (List.mem_of_getElem? HU.out)) hrl), r3⟩
              case measure =>
                simp only [intOf]
                exact meas_lt hlt
          · have hmv : Qn.mov us.length (fun i => (i + rr) % us.length) u = u := by
              unfold Qn.mov
              rw [if_neg (fun k => h1 k.2)]
            have HMV := Lib.hid hmv
            clear hmv
            go_upto_region 17 with fail
            go_region
            all_goals
              go_wp2_with fail
              go_roundw
              case rel =>
                obtain ⟨r1, r2, r3⟩ := row_round (o := .cells #[.string ⟨u.nm.toArray⟩, .int .i64 u.kd, .int .i64 u.base, .int .i64 u.fac.1, .int .i64 u.fac.2] 42) (v := u) HX6.out HY6.out HB6.out hxy hgyw (show jj < ys.length by rw [HTN.out.1]; exact hjl)
                exact ⟨k + 1, ys.set jj (Qn.mov us.length (fun i => (i + rr) % us.length) u), by simp, hlt, r1, (by rw [HMV.out]; exact r2), (by rw [HJ.out]; exact HTN.out.next HU.out (HTW.out.1 u (List.mem_of_getElem? HU.out)) hrl), r3⟩
              case measure =>
                simp only [intOf]
                exact meas_lt hlt
        · have hmv : Qn.mov us.length (fun i => (i + rr) % us.length) u = u := by
            unfold Qn.mov
            rw [if_neg (fun k => h0 k.1)]
          have HMV := Lib.hid hmv
          clear hmv
          go_upto_region 17 with fail
          go_region
          all_goals
            go_wp2_with fail
            go_roundw
            case rel =>
              obtain ⟨r1, r2, r3⟩ := row_round (o := .cells #[.string ⟨u.nm.toArray⟩, .int .i64 u.kd, .int .i64 u.base, .int .i64 u.fac.1, .int .i64 u.fac.2] 42) (v := u) HX6.out HY6.out HB6.out hxy hgyw (show jj < ys.length by rw [HTN.out.1]; exact hjl)
              exact ⟨k + 1, ys.set jj (Qn.mov us.length (fun i => (i + rr) % us.length) u), by simp, hlt, r1, (by rw [HMV.out]; exact r2), (by rw [HJ.out]; exact HTN.out.next HU.out (HTW.out.1 u (List.mem_of_getElem? HU.out)) hrl), r3⟩
            case measure =>
              simp only [intOf]
              exact meas_lt hlt
    · obtain rfl : k = us.length := by omega
      rw [half_full] at HXR
      have HTX0 := Lib.hid (HXR.out.tab (named_64 HTW.out.1))
      have HTY0 := Lib.hid (HYR.out.tab HTN.out.2.1)
      obtain ⟨vi2, hv2⟩ : ∃ i, Qn.validS (us.map (Qn.nam tx)) = (i, vb) := ⟨_, Prod.ext rfl (by rw [named_valid tx us hn2, HVB.out])⟩
      obtain ⟨vi3, hv3⟩ : ∃ i, Qn.validS ys = (i, vb) := ⟨_, Prod.ext rfl (by rw [HTN.out.valid hn2 hrl, HVB.out])⟩
      have HV2 := Lib.hid hv2
      have HV3 := Lib.hid hv3
      clear hv2 hv3 HXR HYR
      go_wp2_with fail
      refine (qvalid_gen (some ⟨gx, 0, none⟩) capx us.length (us.map (Qn.nam tx)) vi2 vb _ (HTX0.out.below (by repeat (first | exact Below.refl _ _ | assumption | refine below_drewN ?_ _ | refine Below.setCell ?_ (by first | (simp; done) | (simp; omega)) _ | refine Below.alloc ?_ (by first | (simp; done) | (simp; omega) | omega) _ | refine Below.drew ?_ | refine Below.trans ?_ (Below.mono (by assumption) (by first | (simp; done) | (simp; omega) | omega))))) (by simp) hcx HV2.out).mono ?_
      rintro e w1 ⟨rfl, hb1⟩
      have hz1 := hb1.size
      (try simp at hz1)
      have bb1 : Below wr.heap.size wr w1 := (by repeat (first | exact Below.refl _ _ | assumption | refine below_drewN ?_ _ | refine Below.setCell ?_ (by first | (simp; done) | (simp; omega)) _ | refine Below.alloc ?_ (by first | (simp; done) | (simp; omega) | omega) _ | refine Below.drew ?_ | refine Below.trans ?_ (Below.mono (by assumption) (by first | (simp; done) | (simp; omega) | omega))))
      have be1 : Below wr.heap.size wr w1 := bb1
      have HTX1 := Lib.hid (HTX0.out.below bb1)
      have HTY1 := Lib.hid (HTY0.out.below bb1)
      have BE1 := Lib.hid be1
      clear be1 bb1 hb1 HTX0 HTY0
      go_wp2_with fail
      refine (qvalid_gen (some ⟨gy, 0, none⟩) us.length us.length ys vi3 vb _ (HTY1.out.below (by repeat (first | exact Below.refl _ _ | assumption | refine below_drewN ?_ _ | refine Below.setCell ?_ (by first | (simp; done) | (simp; omega)) _ | refine Below.alloc ?_ (by first | (simp; done) | (simp; omega) | omega) _ | refine Below.drew ?_ | refine Below.trans ?_ (Below.mono (by assumption) (by first | (simp; done) | (simp; omega) | omega))))) HTN.out.1.symm (Nat.le_refl _) HV3.out).mono ?_
      rintro e w2 ⟨rfl, hb2⟩
      have hz2 := hb2.size
      (try simp at hz2)
      have bb2 : Below w1.heap.size w1 w2 := (by repeat (first | exact Below.refl _ _ | assumption | refine below_drewN ?_ _ | refine Below.setCell ?_ (by first | (simp; done) | (simp; omega)) _ | refine Below.alloc ?_ (by first | (simp; done) | (simp; omega) | omega) _ | refine Below.drew ?_ | refine Below.trans ?_ (Below.mono (by assumption) (by first | (simp; done) | (simp; omega) | omega))))
      have be2 : Below wr.heap.size wr w2 := BE1.out.trans (bb2.mono BE1.out.size)
      have HTX2 := Lib.hid (HTX1.out.below bb2)
      have HTY2 := Lib.hid (HTY1.out.below bb2)
      have BE2 := Lib.hid be2
      clear be2 bb2 hb2 BE1 HTX1 HTY1
      go_wp2_with fail
      go_ret
      exact ⟨by simp, HBW.out.trans ((show Below wr.heap.size wr _ from (by have q := BE2.out; repeat (first | exact q | refine Below.setCell ?_ (by first | (simp; done) | omega | (simp; omega)) _ | refine Below.alloc ?_ (by first | (simp; done) | omega | (simp; omega)) _ | refine below_drewN ?_ _ | refine Below.drew ?_))).mono HBW.out.size)⟩
end Go.Proofs.Ytfddfjokpaepfaa

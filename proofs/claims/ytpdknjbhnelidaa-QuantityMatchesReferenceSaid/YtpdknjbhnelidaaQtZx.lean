/- QuantityMatchesReference: the walk of the law. -/
import Derived.Test.YtpdknjbhnelidaaQtZg
namespace Go.Proofs.Ytpdknjbhnelidaa
open Go.RowKit

set_option maxRecDepth 100000 in
set_option maxHeartbeats 1600000 in
theorem mref_big (p q p3 p4 : Option Addr) (cap capl c3 c4 : Nat) (us : List Qn.Un) (l : List Qn.Am) (tt : Int) (a b : List Qn.R) (w : World) (ht : Tab w p us) (hl : Amts w q l) (ha : Rats w p3 a) (hb : Rats w p4 b) (hs : smallB us l.length = false) :
    Calls Try.prog 3 #[.slice p us.length cap, .slice q l.length capl, .int .i64 tt, .slice p3 a.length c3, .slice p4 b.length c4] w fun e w' => e = .returned (.bool true) ∧ Below w.heap.size w w' := by
  have HT0 := Lib.hid ht
  have HL0 := Lib.hid hl
  have HA0 := Lib.hid ha
  have HB0 := Lib.hid hb
  clear ht hl ha hb
  have HS := Lib.hid hs
  clear hs
  go_enter Try.func3, Try.ntmps3
  go_wp2_with fail
  refine (head_any _).mono ?_
  rintro e w1 ⟨rfl, hb1⟩
  have hz1 := hb1.size
  (try simp at hz1)
  have bb1 : Below w.heap.size w w1 := (by repeat (first | exact Below.refl _ _ | assumption | refine below_drewN ?_ _ | refine Below.setCell ?_ (by first | (simp; done) | (simp; omega)) _ | refine Below.alloc ?_ (by first | (simp; done) | (simp; omega) | omega) _ | refine Below.drew ?_ | refine Below.trans ?_ (Below.mono (by assumption) (by first | (simp; done) | (simp; omega) | omega))))
  have be1 : Below w.heap.size w w1 := bb1
  have HT1 := Lib.hid (HT0.out.below bb1)
  have HL1 := Lib.hid (HL0.out.below bb1)
  have HA1 := Lib.hid (HA0.out.below bb1)
  have HB1 := Lib.hid (HB0.out.below bb1)
  have BE1 := Lib.hid be1
  clear be1 bb1 hb1 HT0 HL0 HA0 HB0
  go_wp2_with fail
  refine (small_any p q cap l.length capl us _ _ (HT1.out.below (by repeat (first | exact Below.refl _ _ | assumption | refine below_drewN ?_ _ | refine Below.setCell ?_ (by first | (simp; done) | (simp; omega)) _ | refine Below.alloc ?_ (by first | (simp; done) | (simp; omega) | omega) _ | refine Below.drew ?_ | refine Below.trans ?_ (Below.mono (by assumption) (by first | (simp; done) | (simp; omega) | omega))))) HS.out).mono ?_
  rintro e w2 ⟨rfl, hb2⟩
  have hz2 := hb2.size
  (try simp at hz2)
  have bb2 : Below w1.heap.size w1 w2 := (by repeat (first | exact Below.refl _ _ | assumption | refine below_drewN ?_ _ | refine Below.setCell ?_ (by first | (simp; done) | (simp; omega)) _ | refine Below.alloc ?_ (by first | (simp; done) | (simp; omega) | omega) _ | refine Below.drew ?_ | refine Below.trans ?_ (Below.mono (by assumption) (by first | (simp; done) | (simp; omega) | omega))))
  have be2 : Below w.heap.size w w2 := BE1.out.trans (bb2.mono BE1.out.size)
  have HT2 := Lib.hid (HT1.out.below bb2)
  have HL2 := Lib.hid (HL1.out.below bb2)
  have HA2 := Lib.hid (HA1.out.below bb2)
  have HB2 := Lib.hid (HB1.out.below bb2)
  have BE2 := Lib.hid be2
  clear be2 bb2 hb2 BE1 HT1 HL1 HA1 HB1
  go_wp2_with fail
  go_ret
  exact ⟨rfl, (by have q := BE2.out; repeat (first | exact q | refine Below.setCell ?_ (by first | (simp; done) | omega | (simp; omega)) _ | refine Below.alloc ?_ (by first | (simp; done) | omega | (simp; omega)) _ | refine below_drewN ?_ _ | refine Below.drew ?_))⟩
set_option maxRecDepth 100000 in
set_option maxHeartbeats 1600000 in
theorem mref_a (p q p3 p4 : Option Addr) (cap capl c3 c4 : Nat) (us : List Qn.Un) (l : List Qn.Am) (tt : Int) (a b : List Qn.R) (w : World) (ht : Tab w p us) (hl : Amts w q l) (ha : Rats w p3 a) (hb : Rats w p4 b) (hs : smallB us l.length = true) (h1 : 60 < a.length) :
    Calls Try.prog 3 #[.slice p us.length cap, .slice q l.length capl, .int .i64 tt, .slice p3 a.length c3, .slice p4 b.length c4] w fun e w' => e = .returned (.bool true) ∧ Below w.heap.size w w' := by
  have HT0 := Lib.hid ht
  have HL0 := Lib.hid hl
  have HA0 := Lib.hid ha
  have HB0 := Lib.hid hb
  clear ht hl ha hb
  have HS := Lib.hid hs
  clear hs
  go_enter Try.func3, Try.ntmps3
  go_wp2_with fail
  refine (head_any _).mono ?_
  rintro e w1 ⟨rfl, hb1⟩
  have hz1 := hb1.size
  (try simp at hz1)
  have bb1 : Below w.heap.size w w1 := (by repeat (first | exact Below.refl _ _ | assumption | refine below_drewN ?_ _ | refine Below.setCell ?_ (by first | (simp; done) | (simp; omega)) _ | refine Below.alloc ?_ (by first | (simp; done) | (simp; omega) | omega) _ | refine Below.drew ?_ | refine Below.trans ?_ (Below.mono (by assumption) (by first | (simp; done) | (simp; omega) | omega))))
  have be1 : Below w.heap.size w w1 := bb1
  have HT1 := Lib.hid (HT0.out.below bb1)
  have HL1 := Lib.hid (HL0.out.below bb1)
  have HA1 := Lib.hid (HA0.out.below bb1)
  have HB1 := Lib.hid (HB0.out.below bb1)
  have BE1 := Lib.hid be1
  clear be1 bb1 hb1 HT0 HL0 HA0 HB0
  go_wp2_with fail
  refine (small_any p q cap l.length capl us _ _ (HT1.out.below (by repeat (first | exact Below.refl _ _ | assumption | refine below_drewN ?_ _ | refine Below.setCell ?_ (by first | (simp; done) | (simp; omega)) _ | refine Below.alloc ?_ (by first | (simp; done) | (simp; omega) | omega) _ | refine Below.drew ?_ | refine Below.trans ?_ (Below.mono (by assumption) (by first | (simp; done) | (simp; omega) | omega))))) HS.out).mono ?_
  rintro e w2 ⟨rfl, hb2⟩
  have hz2 := hb2.size
  (try simp at hz2)
  have bb2 : Below w1.heap.size w1 w2 := (by repeat (first | exact Below.refl _ _ | assumption | refine below_drewN ?_ _ | refine Below.setCell ?_ (by first | (simp; done) | (simp; omega)) _ | refine Below.alloc ?_ (by first | (simp; done) | (simp; omega) | omega) _ | refine Below.drew ?_ | refine Below.trans ?_ (Below.mono (by assumption) (by first | (simp; done) | (simp; omega) | omega))))
  have be2 : Below w.heap.size w w2 := BE1.out.trans (bb2.mono BE1.out.size)
  have HT2 := Lib.hid (HT1.out.below bb2)
  have HL2 := Lib.hid (HL1.out.below bb2)
  have HA2 := Lib.hid (HA1.out.below bb2)
  have HB2 := Lib.hid (HB1.out.below bb2)
  have BE2 := Lib.hid be2
  clear be2 bb2 hb2 BE1 HT1 HL1 HA1 HB1
  go_wp2_with fail
  go_ret
  exact ⟨rfl, (by have q := BE2.out; repeat (first | exact q | refine Below.setCell ?_ (by first | (simp; done) | omega | (simp; omega)) _ | refine Below.alloc ?_ (by first | (simp; done) | omega | (simp; omega)) _ | refine below_drewN ?_ _ | refine Below.drew ?_))⟩
set_option maxRecDepth 100000 in
set_option maxHeartbeats 1600000 in
theorem mref_b (p q p3 p4 : Option Addr) (cap capl c3 c4 : Nat) (us : List Qn.Un) (l : List Qn.Am) (tt : Int) (a b : List Qn.R) (w : World) (ht : Tab w p us) (hl : Amts w q l) (ha : Rats w p3 a) (hb : Rats w p4 b) (hs : smallB us l.length = true) (h1 : a.length ≤ 60) (h2 : 60 < b.length) :
    Calls Try.prog 3 #[.slice p us.length cap, .slice q l.length capl, .int .i64 tt, .slice p3 a.length c3, .slice p4 b.length c4] w fun e w' => e = .returned (.bool true) ∧ Below w.heap.size w w' := by
  have HT0 := Lib.hid ht
  have HL0 := Lib.hid hl
  have HA0 := Lib.hid ha
  have HB0 := Lib.hid hb
  clear ht hl ha hb
  have HS := Lib.hid hs
  clear hs
  go_enter Try.func3, Try.ntmps3
  go_wp2_with fail
  refine (head_any _).mono ?_
  rintro e w1 ⟨rfl, hb1⟩
  have hz1 := hb1.size
  (try simp at hz1)
  have bb1 : Below w.heap.size w w1 := (by repeat (first | exact Below.refl _ _ | assumption | refine below_drewN ?_ _ | refine Below.setCell ?_ (by first | (simp; done) | (simp; omega)) _ | refine Below.alloc ?_ (by first | (simp; done) | (simp; omega) | omega) _ | refine Below.drew ?_ | refine Below.trans ?_ (Below.mono (by assumption) (by first | (simp; done) | (simp; omega) | omega))))
  have be1 : Below w.heap.size w w1 := bb1
  have HT1 := Lib.hid (HT0.out.below bb1)
  have HL1 := Lib.hid (HL0.out.below bb1)
  have HA1 := Lib.hid (HA0.out.below bb1)
  have HB1 := Lib.hid (HB0.out.below bb1)
  have BE1 := Lib.hid be1
  clear be1 bb1 hb1 HT0 HL0 HA0 HB0
  go_wp2_with fail
  refine (small_any p q cap l.length capl us _ _ (HT1.out.below (by repeat (first | exact Below.refl _ _ | assumption | refine below_drewN ?_ _ | refine Below.setCell ?_ (by first | (simp; done) | (simp; omega)) _ | refine Below.alloc ?_ (by first | (simp; done) | (simp; omega) | omega) _ | refine Below.drew ?_ | refine Below.trans ?_ (Below.mono (by assumption) (by first | (simp; done) | (simp; omega) | omega))))) HS.out).mono ?_
  rintro e w2 ⟨rfl, hb2⟩
  have hz2 := hb2.size
  (try simp at hz2)
  have bb2 : Below w1.heap.size w1 w2 := (by repeat (first | exact Below.refl _ _ | assumption | refine below_drewN ?_ _ | refine Below.setCell ?_ (by first | (simp; done) | (simp; omega)) _ | refine Below.alloc ?_ (by first | (simp; done) | (simp; omega) | omega) _ | refine Below.drew ?_ | refine Below.trans ?_ (Below.mono (by assumption) (by first | (simp; done) | (simp; omega) | omega))))
  have be2 : Below w.heap.size w w2 := BE1.out.trans (bb2.mono BE1.out.size)
  have HT2 := Lib.hid (HT1.out.below bb2)
  have HL2 := Lib.hid (HL1.out.below bb2)
  have HA2 := Lib.hid (HA1.out.below bb2)
  have HB2 := Lib.hid (HB1.out.below bb2)
  have BE2 := Lib.hid be2
  clear be2 bb2 hb2 BE1 HT1 HL1 HA1 HB1
  go_wp2_with fail
  go_ret
  exact ⟨rfl, (by have q := BE2.out; repeat (first | exact q | refine Below.setCell ?_ (by first | (simp; done) | omega | (simp; omega)) _ | refine Below.alloc ?_ (by first | (simp; done) | omega | (simp; omega)) _ | refine below_drewN ?_ _ | refine Below.drew ?_))⟩
theorem bask_small {us : List Qn.Un} {l : List Qn.Am} {x : Option (List Qn.R)} {c : Int} (hul : us.length ≤ 1000) (h : Qn.basketS us l = (x, c)) : (x.getD []).length ≤ 1000 := by
  rcases x with _ | o
  · exact Nat.zero_le _
  · have hc : c = 0 := by
      unfold Qn.basketS at h
      split at h
      · split at h
        · simp only [Prod.mk.injEq] at h; exact h.2.symm
        · simp at h
      · simp at h
    subst hc
    simp only [Option.getD_some]
    rw [(bask_64 h).1]
    exact hul
theorem same_self (xs : List Qn.R) : sameB xs xs = true := (sameB_iff xs xs).2 rfl
set_option maxRecDepth 100000 in
set_option maxHeartbeats 3200000 in
theorem mref_go (p q p3 p4 : Option Addr) (cap capl c3 c4 : Nat) (us : List Qn.Un) (l : List Qn.Am) (tt : Int) (a b : List Qn.R) (vi : Int) (vb co : Bool) (w : World) (ht : Tab w p us) (hcap : us.length ≤ cap) (hl : Amts w q l) (ha : Rats w p3 a) (hb : Rats w p4 b) (hs : smallB us l.length = true) (h1 : a.length ≤ 60) (h2 : b.length ≤ 60) (hul : us.length ≤ 1000) (hll : l.length ≤ 60) (hva : Qn.validS us = (vi, vb)) (hco : covB a b = co) :
    Calls Try.prog 3 #[.slice p us.length cap, .slice q l.length capl, .int .i64 tt, .slice p3 a.length c3, .slice p4 b.length c4] w fun e w' => e = .returned (.bool true) ∧ Below w.heap.size w w' := by
  have HT0 := Lib.hid ht
  have HL0 := Lib.hid hl
  have HA0 := Lib.hid ha
  have HB0 := Lib.hid hb
  clear ht hl ha hb
  have HS := Lib.hid hs
  clear hs
  have HVA := Lib.hid hva
  clear hva
  have HCO := Lib.hid hco
  clear hco
  have hvi : (vi != vi) = false := by simp
  have hvb : (vb != vb) = false := by simp
  have hco : (co != co) = false := by simp
  go_enter Try.func3, Try.ntmps3
  go_wp2_with fail
  refine (head_any _).mono ?_
  rintro e w1 ⟨rfl, hb1⟩
  have hz1 := hb1.size
  (try simp at hz1)
  have bb1 : Below w.heap.size w w1 := (by repeat (first | exact Below.refl _ _ | assumption | refine below_drewN ?_ _ | refine Below.setCell ?_ (by first | (simp; done) | (simp; omega)) _ | refine Below.alloc ?_ (by first | (simp; done) | (simp; omega) | omega) _ | refine Below.drew ?_ | refine Below.trans ?_ (Below.mono (by assumption) (by first | (simp; done) | (simp; omega) | omega))))
  have be1 : Below w.heap.size w w1 := bb1
  have HT1 := Lib.hid (HT0.out.below bb1)
  have HL1 := Lib.hid (HL0.out.below bb1)
  have HA1 := Lib.hid (HA0.out.below bb1)
  have HB1 := Lib.hid (HB0.out.below bb1)
  have BE1 := Lib.hid be1
  clear be1 bb1 hb1 HT0 HL0 HA0 HB0
  go_wp2_with fail
  refine (small_any p q cap l.length capl us _ _ (HT1.out.below (by repeat (first | exact Below.refl _ _ | assumption | refine below_drewN ?_ _ | refine Below.setCell ?_ (by first | (simp; done) | (simp; omega)) _ | refine Below.alloc ?_ (by first | (simp; done) | (simp; omega) | omega) _ | refine Below.drew ?_ | refine Below.trans ?_ (Below.mono (by assumption) (by first | (simp; done) | (simp; omega) | omega))))) HS.out).mono ?_
  rintro e w2 ⟨rfl, hb2⟩
  have hz2 := hb2.size
  (try simp at hz2)
  have bb2 : Below w1.heap.size w1 w2 := (by repeat (first | exact Below.refl _ _ | assumption | refine below_drewN ?_ _ | refine Below.setCell ?_ (by first | (simp; done) | (simp; omega)) _ | refine Below.alloc ?_ (by first | (simp; done) | (simp; omega) | omega) _ | refine Below.drew ?_ | refine Below.trans ?_ (Below.mono (by assumption) (by first | (simp; done) | (simp; omega) | omega))))
  have be2 : Below w.heap.size w w2 := BE1.out.trans (bb2.mono BE1.out.size)
  have HT2 := Lib.hid (HT1.out.below bb2)
  have HL2 := Lib.hid (HL1.out.below bb2)
  have HA2 := Lib.hid (HA1.out.below bb2)
  have HB2 := Lib.hid (HB1.out.below bb2)
  have BE2 := Lib.hid be2
  clear be2 bb2 hb2 BE1 HT1 HL1 HA1 HB1
  go_wp2_with fail
  refine (qvalid_any p cap us _ (HT2.out.below (by repeat (first | exact Below.refl _ _ | assumption | refine below_drewN ?_ _ | refine Below.setCell ?_ (by first | (simp; done) | (simp; omega)) _ | refine Below.alloc ?_ (by first | (simp; done) | (simp; omega) | omega) _ | refine Below.drew ?_ | refine Below.trans ?_ (Below.mono (by assumption) (by first | (simp; done) | (simp; omega) | omega))))) hcap).mono ?_
  rintro e w3 ⟨rfl, hb3⟩
  rw [HVA.out]
  simp only [RIB]
  have hz3 := hb3.size
  (try simp at hz3)
  have bb3 : Below w2.heap.size w2 w3 := (by repeat (first | exact Below.refl _ _ | assumption | refine below_drewN ?_ _ | refine Below.setCell ?_ (by first | (simp; done) | (simp; omega)) _ | refine Below.alloc ?_ (by first | (simp; done) | (simp; omega) | omega) _ | refine Below.drew ?_ | refine Below.trans ?_ (Below.mono (by assumption) (by first | (simp; done) | (simp; omega) | omega))))
  have be3 : Below w.heap.size w w3 := BE2.out.trans (bb3.mono BE2.out.size)
  have HT3 := Lib.hid (HT2.out.below bb3)
  have HL3 := Lib.hid (HL2.out.below bb3)
  have HA3 := Lib.hid (HA2.out.below bb3)
  have HB3 := Lib.hid (HB2.out.below bb3)
  have BE3 := Lib.hid be3
  clear be3 bb3 hb3 BE2 HT2 HL2 HA2 HB2
  go_wp2_with fail
  refine (rqvalid_any p cap us _ (HT3.out.below (by repeat (first | exact Below.refl _ _ | assumption | refine below_drewN ?_ _ | refine Below.setCell ?_ (by first | (simp; done) | (simp; omega)) _ | refine Below.alloc ?_ (by first | (simp; done) | (simp; omega) | omega) _ | refine Below.drew ?_ | refine Below.trans ?_ (Below.mono (by assumption) (by first | (simp; done) | (simp; omega) | omega)))))).mono ?_
  rintro e w4 ⟨rfl, hb4⟩
  rw [HVA.out]
  simp only [RIB]
  have hz4 := hb4.size
  (try simp at hz4)
  have bb4 : Below w3.heap.size w3 w4 := (by repeat (first | exact Below.refl _ _ | assumption | refine below_drewN ?_ _ | refine Below.setCell ?_ (by first | (simp; done) | (simp; omega)) _ | refine Below.alloc ?_ (by first | (simp; done) | (simp; omega) | omega) _ | refine Below.drew ?_ | refine Below.trans ?_ (Below.mono (by assumption) (by first | (simp; done) | (simp; omega) | omega))))
  have be4 : Below w.heap.size w w4 := BE3.out.trans (bb4.mono BE3.out.size)
  have HT4 := Lib.hid (HT3.out.below bb4)
  have HL4 := Lib.hid (HL3.out.below bb4)
  have HA4 := Lib.hid (HA3.out.below bb4)
  have HB4 := Lib.hid (HB3.out.below bb4)
  have BE4 := Lib.hid be4
  clear be4 bb4 hb4 BE3 HT3 HL3 HA3 HB3
  go_wp2_with fail
  refine (covers_any p3 p4 c3 c4 a b _ (by omega) (HA4.out.below (by repeat (first | exact Below.refl _ _ | assumption | refine below_drewN ?_ _ | refine Below.setCell ?_ (by first | (simp; done) | (simp; omega)) _ | refine Below.alloc ?_ (by first | (simp; done) | (simp; omega) | omega) _ | refine Below.drew ?_ | refine Below.trans ?_ (Below.mono (by assumption) (by first | (simp; done) | (simp; omega) | omega))))) (HB4.out.below (by repeat (first | exact Below.refl _ _ | assumption | refine below_drewN ?_ _ | refine Below.setCell ?_ (by first | (simp; done) | (simp; omega)) _ | refine Below.alloc ?_ (by first | (simp; done) | (simp; omega) | omega) _ | refine Below.drew ?_ | refine Below.trans ?_ (Below.mono (by assumption) (by first | (simp; done) | (simp; omega) | omega)))))).mono ?_
  rintro e w5 ⟨rfl, hb5⟩
  rw [HCO.out]
  have hz5 := hb5.size
  (try simp at hz5)
  have bb5 : Below w4.heap.size w4 w5 := (by repeat (first | exact Below.refl _ _ | assumption | refine below_drewN ?_ _ | refine Below.setCell ?_ (by first | (simp; done) | (simp; omega)) _ | refine Below.alloc ?_ (by first | (simp; done) | (simp; omega) | omega) _ | refine Below.drew ?_ | refine Below.trans ?_ (Below.mono (by assumption) (by first | (simp; done) | (simp; omega) | omega))))
  have be5 : Below w.heap.size w w5 := BE4.out.trans (bb5.mono BE4.out.size)
  have HT5 := Lib.hid (HT4.out.below bb5)
  have HL5 := Lib.hid (HL4.out.below bb5)
  have HA5 := Lib.hid (HA4.out.below bb5)
  have HB5 := Lib.hid (HB4.out.below bb5)
  have BE5 := Lib.hid be5
  clear be5 bb5 hb5 BE4 HT4 HL4 HA4 HB4
  go_wp2_with fail
  refine (rcovers_any p3 p4 c3 c4 a b _ (by omega) (HA5.out.below (by repeat (first | exact Below.refl _ _ | assumption | refine below_drewN ?_ _ | refine Below.setCell ?_ (by first | (simp; done) | (simp; omega)) _ | refine Below.alloc ?_ (by first | (simp; done) | (simp; omega) | omega) _ | refine Below.drew ?_ | refine Below.trans ?_ (Below.mono (by assumption) (by first | (simp; done) | (simp; omega) | omega))))) (HB5.out.below (by repeat (first | exact Below.refl _ _ | assumption | refine below_drewN ?_ _ | refine Below.setCell ?_ (by first | (simp; done) | (simp; omega)) _ | refine Below.alloc ?_ (by first | (simp; done) | (simp; omega) | omega) _ | refine Below.drew ?_ | refine Below.trans ?_ (Below.mono (by assumption) (by first | (simp; done) | (simp; omega) | omega)))))).mono ?_
  rintro e w6 ⟨rfl, hb6⟩
  rw [HCO.out]
  have hz6 := hb6.size
  (try simp at hz6)
  have bb6 : Below w5.heap.size w5 w6 := (by repeat (first | exact Below.refl _ _ | assumption | refine below_drewN ?_ _ | refine Below.setCell ?_ (by first | (simp; done) | (simp; omega)) _ | refine Below.alloc ?_ (by first | (simp; done) | (simp; omega) | omega) _ | refine Below.drew ?_ | refine Below.trans ?_ (Below.mono (by assumption) (by first | (simp; done) | (simp; omega) | omega))))
  have be6 : Below w.heap.size w w6 := BE5.out.trans (bb6.mono BE5.out.size)
  have HT6 := Lib.hid (HT5.out.below bb6)
  have HL6 := Lib.hid (HL5.out.below bb6)
  have HA6 := Lib.hid (HA5.out.below bb6)
  have HB6 := Lib.hid (HB5.out.below bb6)
  have BE6 := Lib.hid be6
  clear be6 bb6 hb6 BE5 HT5 HL5 HA5 HB5
  go_wp2_with fail
  go_loopw [16] (fun si wr => ∃ k : Nat, si = .int .i64 k ∧ k ≤ l.length ∧ Below w6.heap.size w6 wr) (fun si _ => l.length - (intOf si).toNat)
  case atStart => exact ⟨0, rfl, Nat.zero_le _, (by repeat (first | exact Below.refl _ _ | assumption | refine below_drewN ?_ _ | refine Below.setCell ?_ (by first | (simp; done) | (simp; omega)) _ | refine Below.alloc ?_ (by first | (simp; done) | (simp; omega) | omega) _ | refine Below.drew ?_ | refine Below.trans ?_ (Below.mono (by assumption) (by first | (simp; done) | (simp; omega) | omega))))⟩
  case round =>
    obtain ⟨k, rfl, hk, hbw⟩ := hrel
    have HT0 := Lib.hid (HT6.out.below hbw)
    have HL0 := Lib.hid (HL6.out.below hbw)
    have HBW := Lib.hid hbw
    have HBE := Lib.hid (BE6.out.trans (hbw.mono BE6.out.size))
    clear hbw
    by_cases hlt : k < l.length
    · have hu : l[k]? = some l[k] := List.getElem?_eq_getElem hlt
      generalize l[k] = x at hu
      have hi0 : (0 : Int) ≤ (k : Int) := by omega
      have hi1 : (k : Int) < (l.length : Int) := by omega
      obtain ⟨bl, ol, hqe, ⟨c0_x_0, c0_x_1, c0_x_2⟩, h64, l0_x⟩ := HL0.out.at hu
      subst hqe
      have m0_x : bl < wr.heap.size + 1 := by omega
      obtain ⟨cb, cr, ce, hc⟩ : ∃ b r e, Qn.convertS us x tt = (b, r, e) := ⟨_, _, _, rfl⟩
      have HC := Lib.hid hc
      have hee : (ce != ce) = false := by simp
      clear hu hc
      go_wp2_with fail
      refine (conv_any p cap us x tt _ (HT0.out.below (by repeat (first | exact Below.refl _ _ | assumption | refine below_drewN ?_ _ | refine Below.setCell ?_ (by first | (simp; done) | (simp; omega)) _ | refine Below.alloc ?_ (by first | (simp; done) | (simp; omega) | omega) _ | refine Below.drew ?_ | refine Below.trans ?_ (Below.mono (by assumption) (by first | (simp; done) | (simp; omega) | omega))))) hcap h64).mono ?_
      rintro e w1 ⟨rfl, hb1⟩
      rw [HC.out]
      simp only [RA]
      have hz1 := hb1.size
      (try simp at hz1)
      have bb1 : Below wr.heap.size wr w1 := (by repeat (first | exact Below.refl _ _ | assumption | refine below_drewN ?_ _ | refine Below.setCell ?_ (by first | (simp; done) | (simp; omega)) _ | refine Below.alloc ?_ (by first | (simp; done) | (simp; omega) | omega) _ | refine Below.drew ?_ | refine Below.trans ?_ (Below.mono (by assumption) (by first | (simp; done) | (simp; omega) | omega))))
      have be1 : Below wr.heap.size wr w1 := bb1
      have c1_x_0 : w1.cell? ⟨bl, ol + k * 3, none⟩ = some (.int .i64 x.1) := cell_keep bb1 c0_x_0
      have c1_x_1 : w1.cell? ⟨bl, ol + k * 3 + 1, none⟩ = some (.int .i64 x.2.1) := cell_keep bb1 c0_x_1
      have c1_x_2 : w1.cell? ⟨bl, ol + k * 3 + 2, none⟩ = some (.int .i64 x.2.2) := cell_keep bb1 c0_x_2
      have l1_x : bl < w1.heap.size := by omega
      have m1_x : bl < w1.heap.size + 1 := by omega
      have HT1 := Lib.hid (HT0.out.below bb1)
      have BE1 := Lib.hid be1
      clear be1 bb1 hb1 c0_x_0 c0_x_1 c0_x_2 l0_x m0_x HT0
      go_wp2_with fail
      refine (rconv_any p cap us x tt _ (HT1.out.below (by repeat (first | exact Below.refl _ _ | assumption | refine below_drewN ?_ _ | refine Below.setCell ?_ (by first | (simp; done) | (simp; omega)) _ | refine Below.alloc ?_ (by first | (simp; done) | (simp; omega) | omega) _ | refine Below.drew ?_ | refine Below.trans ?_ (Below.mono (by assumption) (by first | (simp; done) | (simp; omega) | omega)))))).mono ?_
      rintro e w2 ⟨rfl, hb2⟩
      rw [HC.out]
      simp only [RA]
      have hz2 := hb2.size
      (try simp at hz2)
      have bb2 : Below w1.heap.size w1 w2 := (by repeat (first | exact Below.refl _ _ | assumption | refine below_drewN ?_ _ | refine Below.setCell ?_ (by first | (simp; done) | (simp; omega)) _ | refine Below.alloc ?_ (by first | (simp; done) | (simp; omega) | omega) _ | refine Below.drew ?_ | refine Below.trans ?_ (Below.mono (by assumption) (by first | (simp; done) | (simp; omega) | omega))))
      have be2 : Below wr.heap.size wr w2 := BE1.out.trans (bb2.mono BE1.out.size)
      have c2_x_0 : w2.cell? ⟨bl, ol + k * 3, none⟩ = some (.int .i64 x.1) := cell_keep bb2 c1_x_0
      have c2_x_1 : w2.cell? ⟨bl, ol + k * 3 + 1, none⟩ = some (.int .i64 x.2.1) := cell_keep bb2 c1_x_1
      have c2_x_2 : w2.cell? ⟨bl, ol + k * 3 + 2, none⟩ = some (.int .i64 x.2.2) := cell_keep bb2 c1_x_2
      have l2_x : bl < w2.heap.size := by omega
      have m2_x : bl < w2.heap.size + 1 := by omega
      have c2_c_0 : w2.cell? ⟨w1.heap.size, 0, none⟩ = some (.int .i64 cb) := cell_keep hb2 (by go_simp)
      have c2_c_1 : w2.cell? ⟨w1.heap.size, 1, none⟩ = some (.int .i64 cr.1) := cell_keep hb2 (by go_simp)
      have c2_c_2 : w2.cell? ⟨w1.heap.size, 2, none⟩ = some (.int .i64 cr.2) := cell_keep hb2 (by go_simp)
      have l2_c : w1.heap.size < w2.heap.size := by omega
      have m2_c : w1.heap.size < w2.heap.size + 1 := by omega
      have HT2 := Lib.hid (HT1.out.below bb2)
      have BE2 := Lib.hid be2
      clear be2 bb2 hb2 BE1 c1_x_0 c1_x_1 c1_x_2 l1_x m1_x HT1
      go_wp2_with fail
      go_roundw
      case rel => exact ⟨k + 1, by simp, hlt, HBW.out.trans ((show Below wr.heap.size wr _ from (by have q := BE2.out; repeat (first | exact q | refine Below.setCell ?_ (by first | (simp; done) | omega | (simp; omega)) _ | refine Below.alloc ?_ (by first | (simp; done) | omega | (simp; omega)) _ | refine below_drewN ?_ _ | refine Below.drew ?_))).mono HBW.out.size)⟩
      case measure => simp only [intOf]; exact meas_lt hlt
    · obtain rfl : k = l.length := by omega
      obtain ⟨sb, sr, se, hsu⟩ : ∃ b r e, Qn.sumS us l tt = (b, r, e) := ⟨_, _, _, rfl⟩
      have HSU := Lib.hid hsu
      obtain ⟨x, c, hba⟩ : ∃ x c, Qn.basketS us l = (x, c) := ⟨_, _, rfl⟩
      have HBA := Lib.hid hba
      obtain ⟨xs, hxs⟩ : ∃ xs, xs = x.getD [] := ⟨_, rfl⟩
      have HXS := Lib.hid hxs
      have hxl : xs.length ≤ 1000 := by
        rw [hxs]
        exact bask_small hul hba
      have hse : (se == se) = true := by simp
      have hce : (c == c) = true := by simp
      have HSM := Lib.hid (same_self xs)
      clear hsu hba hxs
      go_wp2_with fail
      refine (sum_any p q cap capl us l tt _ (HT0.out.below (by repeat (first | exact Below.refl _ _ | assumption | refine below_drewN ?_ _ | refine Below.setCell ?_ (by first | (simp; done) | (simp; omega)) _ | refine Below.alloc ?_ (by first | (simp; done) | (simp; omega) | omega) _ | refine Below.drew ?_ | refine Below.trans ?_ (Below.mono (by assumption) (by first | (simp; done) | (simp; omega) | omega))))) hcap (HL0.out.below (by repeat (first | exact Below.refl _ _ | assumption | refine below_drewN ?_ _ | refine Below.setCell ?_ (by first | (simp; done) | (simp; omega)) _ | refine Below.alloc ?_ (by first | (simp; done) | (simp; omega) | omega) _ | refine Below.drew ?_ | refine Below.trans ?_ (Below.mono (by assumption) (by first | (simp; done) | (simp; omega) | omega))))) (by omega)).mono ?_
      rintro e w1 ⟨rfl, hb1⟩
      rw [HSU.out]
      simp only [RA]
      have hz1 := hb1.size
      (try simp at hz1)
      have bb1 : Below wr.heap.size wr w1 := (by repeat (first | exact Below.refl _ _ | assumption | refine below_drewN ?_ _ | refine Below.setCell ?_ (by first | (simp; done) | (simp; omega)) _ | refine Below.alloc ?_ (by first | (simp; done) | (simp; omega) | omega) _ | refine Below.drew ?_ | refine Below.trans ?_ (Below.mono (by assumption) (by first | (simp; done) | (simp; omega) | omega))))
      have be1 : Below wr.heap.size wr w1 := bb1
      have HT1 := Lib.hid (HT0.out.below bb1)
      have HL1 := Lib.hid (HL0.out.below bb1)
      have BE1 := Lib.hid be1
      clear be1 bb1 hb1 HT0 HL0
      go_wp2_with fail
      refine (rsum_any p q cap capl us l tt _ (HT1.out.below (by repeat (first | exact Below.refl _ _ | assumption | refine below_drewN ?_ _ | refine Below.setCell ?_ (by first | (simp; done) | (simp; omega)) _ | refine Below.alloc ?_ (by first | (simp; done) | (simp; omega) | omega) _ | refine Below.drew ?_ | refine Below.trans ?_ (Below.mono (by assumption) (by first | (simp; done) | (simp; omega) | omega))))) (HL1.out.below (by repeat (first | exact Below.refl _ _ | assumption | refine below_drewN ?_ _ | refine Below.setCell ?_ (by first | (simp; done) | (simp; omega)) _ | refine Below.alloc ?_ (by first | (simp; done) | (simp; omega) | omega) _ | refine Below.drew ?_ | refine Below.trans ?_ (Below.mono (by assumption) (by first | (simp; done) | (simp; omega) | omega))))) (by omega)).mono ?_
      rintro e w2 ⟨rfl, hb2⟩
      rw [HSU.out]
      simp only [RA]
      have hz2 := hb2.size
      (try simp at hz2)
      have bb2 : Below w1.heap.size w1 w2 := (by repeat (first | exact Below.refl _ _ | assumption | refine below_drewN ?_ _ | refine Below.setCell ?_ (by first | (simp; done) | (simp; omega)) _ | refine Below.alloc ?_ (by first | (simp; done) | (simp; omega) | omega) _ | refine Below.drew ?_ | refine Below.trans ?_ (Below.mono (by assumption) (by first | (simp; done) | (simp; omega) | omega))))
      have be2 : Below wr.heap.size wr w2 := BE1.out.trans (bb2.mono BE1.out.size)
      have c2_s_0 : w2.cell? ⟨w1.heap.size, 0, none⟩ = some (.int .i64 sb) := cell_keep hb2 (by go_simp)
      have c2_s_1 : w2.cell? ⟨w1.heap.size, 1, none⟩ = some (.int .i64 sr.1) := cell_keep hb2 (by go_simp)
      have c2_s_2 : w2.cell? ⟨w1.heap.size, 2, none⟩ = some (.int .i64 sr.2) := cell_keep hb2 (by go_simp)
      have l2_s : w1.heap.size < w2.heap.size := by omega
      have m2_s : w1.heap.size < w2.heap.size + 1 := by omega
      have HT2 := Lib.hid (HT1.out.below bb2)
      have HL2 := Lib.hid (HL1.out.below bb2)
      have BE2 := Lib.hid be2
      clear be2 bb2 hb2 BE1 HT1 HL1
      go_wp2_with fail
      refine (basket_gen p q cap capl us l xs x c _ (HT2.out.below (by repeat (first | exact Below.refl _ _ | assumption | refine below_drewN ?_ _ | refine Below.setCell ?_ (by first | (simp; done) | (simp; omega)) _ | refine Below.alloc ?_ (by first | (simp; done) | (simp; omega) | omega) _ | refine Below.drew ?_ | refine Below.trans ?_ (Below.mono (by assumption) (by first | (simp; done) | (simp; omega) | omega))))) hcap (HL2.out.below (by repeat (first | exact Below.refl _ _ | assumption | refine below_drewN ?_ _ | refine Below.setCell ?_ (by first | (simp; done) | (simp; omega)) _ | refine Below.alloc ?_ (by first | (simp; done) | (simp; omega) | omega) _ | refine Below.drew ?_ | refine Below.trans ?_ (Below.mono (by assumption) (by first | (simp; done) | (simp; omega) | omega))))) (by omega) HBA.out HXS.out).mono ?_
      rintro e w3 ⟨qx, rfl, hrx, hb3⟩
      have hz3 := hb3.size
      (try simp at hz3)
      have bb3 : Below w2.heap.size w2 w3 := (by repeat (first | exact Below.refl _ _ | assumption | refine below_drewN ?_ _ | refine Below.setCell ?_ (by first | (simp; done) | (simp; omega)) _ | refine Below.alloc ?_ (by first | (simp; done) | (simp; omega) | omega) _ | refine Below.drew ?_ | refine Below.trans ?_ (Below.mono (by assumption) (by first | (simp; done) | (simp; omega) | omega))))
      have be3 : Below wr.heap.size wr w3 := BE2.out.trans (bb3.mono BE2.out.size)
      have c3_s_0 : w3.cell? ⟨w1.heap.size, 0, none⟩ = some (.int .i64 sb) := cell_keep bb3 c2_s_0
      have c3_s_1 : w3.cell? ⟨w1.heap.size, 1, none⟩ = some (.int .i64 sr.1) := cell_keep bb3 c2_s_1
      have c3_s_2 : w3.cell? ⟨w1.heap.size, 2, none⟩ = some (.int .i64 sr.2) := cell_keep bb3 c2_s_2
      have l3_s : w1.heap.size < w3.heap.size := by omega
      have m3_s : w1.heap.size < w3.heap.size + 1 := by omega
      have c3_t_0 : w3.cell? ⟨w2.heap.size, 0, none⟩ = some (.int .i64 sb) := cell_keep hb3 (by go_simp)
      have c3_t_1 : w3.cell? ⟨w2.heap.size, 1, none⟩ = some (.int .i64 sr.1) := cell_keep hb3 (by go_simp)
      have c3_t_2 : w3.cell? ⟨w2.heap.size, 2, none⟩ = some (.int .i64 sr.2) := cell_keep hb3 (by go_simp)
      have l3_t : w2.heap.size < w3.heap.size := by omega
      have m3_t : w2.heap.size < w3.heap.size + 1 := by omega
      have HT3 := Lib.hid (HT2.out.below bb3)
      have HL3 := Lib.hid (HL2.out.below bb3)
      have BE3 := Lib.hid be3
      clear be3 bb3 hb3 BE2 c2_s_0 c2_s_1 c2_s_2 l2_s m2_s HT2 HL2
      have HX3 := Lib.hid hrx
      clear hrx
      go_wp2_with fail
      refine (rbasket_gen p q cap capl us l xs x c _ (HT3.out.below (by repeat (first | exact Below.refl _ _ | assumption | refine below_drewN ?_ _ | refine Below.setCell ?_ (by first | (simp; done) | (simp; omega)) _ | refine Below.alloc ?_ (by first | (simp; done) | (simp; omega) | omega) _ | refine Below.drew ?_ | refine Below.trans ?_ (Below.mono (by assumption) (by first | (simp; done) | (simp; omega) | omega))))) (HL3.out.below (by repeat (first | exact Below.refl _ _ | assumption | refine below_drewN ?_ _ | refine Below.setCell ?_ (by first | (simp; done) | (simp; omega)) _ | refine Below.alloc ?_ (by first | (simp; done) | (simp; omega) | omega) _ | refine Below.drew ?_ | refine Below.trans ?_ (Below.mono (by assumption) (by first | (simp; done) | (simp; omega) | omega))))) (by omega) HBA.out HXS.out).mono ?_
      rintro e w4 ⟨qy, cy, rfl, hry, hb4⟩
      have hz4 := hb4.size
      (try simp at hz4)
      have bb4 : Below w3.heap.size w3 w4 := (by repeat (first | exact Below.refl _ _ | assumption | refine below_drewN ?_ _ | refine Below.setCell ?_ (by first | (simp; done) | (simp; omega)) _ | refine Below.alloc ?_ (by first | (simp; done) | (simp; omega) | omega) _ | refine Below.drew ?_ | refine Below.trans ?_ (Below.mono (by assumption) (by first | (simp; done) | (simp; omega) | omega))))
      have be4 : Below wr.heap.size wr w4 := BE3.out.trans (bb4.mono BE3.out.size)
      have c4_s_0 : w4.cell? ⟨w1.heap.size, 0, none⟩ = some (.int .i64 sb) := cell_keep bb4 c3_s_0
      have c4_s_1 : w4.cell? ⟨w1.heap.size, 1, none⟩ = some (.int .i64 sr.1) := cell_keep bb4 c3_s_1
      have c4_s_2 : w4.cell? ⟨w1.heap.size, 2, none⟩ = some (.int .i64 sr.2) := cell_keep bb4 c3_s_2
      have l4_s : w1.heap.size < w4.heap.size := by omega
      have m4_s : w1.heap.size < w4.heap.size + 1 := by omega
      have c4_t_0 : w4.cell? ⟨w2.heap.size, 0, none⟩ = some (.int .i64 sb) := cell_keep bb4 c3_t_0
      have c4_t_1 : w4.cell? ⟨w2.heap.size, 1, none⟩ = some (.int .i64 sr.1) := cell_keep bb4 c3_t_1
      have c4_t_2 : w4.cell? ⟨w2.heap.size, 2, none⟩ = some (.int .i64 sr.2) := cell_keep bb4 c3_t_2
      have l4_t : w2.heap.size < w4.heap.size := by omega
      have m4_t : w2.heap.size < w4.heap.size + 1 := by omega
      have HT4 := Lib.hid (HT3.out.below bb4)
      have HL4 := Lib.hid (HL3.out.below bb4)
      have HX4 := Lib.hid (HX3.out.below bb4)
      have BE4 := Lib.hid be4
      clear be4 bb4 hb4 BE3 c3_s_0 c3_s_1 c3_s_2 l3_s m3_s c3_t_0 c3_t_1 c3_t_2 l3_t m3_t HT3 HL3 HX3
      have HY4 := Lib.hid hry
      clear hry
      go_wp2_with fail
      refine (same_any qx qy xs.length cy xs xs _ (by omega) (HX4.out.below (by repeat (first | exact Below.refl _ _ | assumption | refine below_drewN ?_ _ | refine Below.setCell ?_ (by first | (simp; done) | (simp; omega)) _ | refine Below.alloc ?_ (by first | (simp; done) | (simp; omega) | omega) _ | refine Below.drew ?_ | refine Below.trans ?_ (Below.mono (by assumption) (by first | (simp; done) | (simp; omega) | omega))))) (HY4.out.below (by repeat (first | exact Below.refl _ _ | assumption | refine below_drewN ?_ _ | refine Below.setCell ?_ (by first | (simp; done) | (simp; omega)) _ | refine Below.alloc ?_ (by first | (simp; done) | (simp; omega) | omega) _ | refine Below.drew ?_ | refine Below.trans ?_ (Below.mono (by assumption) (by first | (simp; done) | (simp; omega) | omega)))))).mono ?_
      rintro e w5 ⟨rfl, hb5⟩
      rw [HSM.out]
      have hz5 := hb5.size
      (try simp at hz5)
      have bb5 : Below w4.heap.size w4 w5 := (by repeat (first | exact Below.refl _ _ | assumption | refine below_drewN ?_ _ | refine Below.setCell ?_ (by first | (simp; done) | (simp; omega)) _ | refine Below.alloc ?_ (by first | (simp; done) | (simp; omega) | omega) _ | refine Below.drew ?_ | refine Below.trans ?_ (Below.mono (by assumption) (by first | (simp; done) | (simp; omega) | omega))))
      have be5 : Below wr.heap.size wr w5 := BE4.out.trans (bb5.mono BE4.out.size)
      have c5_s_0 : w5.cell? ⟨w1.heap.size, 0, none⟩ = some (.int .i64 sb) := cell_keep bb5 c4_s_0
      have c5_s_1 : w5.cell? ⟨w1.heap.size, 1, none⟩ = some (.int .i64 sr.1) := cell_keep bb5 c4_s_1
      have c5_s_2 : w5.cell? ⟨w1.heap.size, 2, none⟩ = some (.int .i64 sr.2) := cell_keep bb5 c4_s_2
      have l5_s : w1.heap.size < w5.heap.size := by omega
      have m5_s : w1.heap.size < w5.heap.size + 1 := by omega
      have c5_t_0 : w5.cell? ⟨w2.heap.size, 0, none⟩ = some (.int .i64 sb) := cell_keep bb5 c4_t_0
      have c5_t_1 : w5.cell? ⟨w2.heap.size, 1, none⟩ = some (.int .i64 sr.1) := cell_keep bb5 c4_t_1
      have c5_t_2 : w5.cell? ⟨w2.heap.size, 2, none⟩ = some (.int .i64 sr.2) := cell_keep bb5 c4_t_2
      have l5_t : w2.heap.size < w5.heap.size := by omega
      have m5_t : w2.heap.size < w5.heap.size + 1 := by omega
      have HT5 := Lib.hid (HT4.out.below bb5)
      have HL5 := Lib.hid (HL4.out.below bb5)
      have HX5 := Lib.hid (HX4.out.below bb5)
      have HY5 := Lib.hid (HY4.out.below bb5)
      have BE5 := Lib.hid be5
      clear be5 bb5 hb5 BE4 c4_s_0 c4_s_1 c4_s_2 l4_s m4_s c4_t_0 c4_t_1 c4_t_2 l4_t m4_t HT4 HL4 HX4 HY4
      go_wp2_with fail
      go_ret
      exact ⟨rfl, HBE.out.trans ((show Below wr.heap.size wr _ from (by have q := BE5.out; repeat (first | exact q | refine Below.setCell ?_ (by first | (simp; done) | omega | (simp; omega)) _ | refine Below.alloc ?_ (by first | (simp; done) | omega | (simp; omega)) _ | refine below_drewN ?_ _ | refine Below.drew ?_))).mono HBE.out.size)⟩
theorem mref_law (p q p3 p4 : Option Addr) (cap capl c3 c4 : Nat) (us : List Qn.Un) (l : List Qn.Am) (tt : Int) (a b : List Qn.R) (w : World) (ht : Tab w p us) (hcap : us.length ≤ cap) (hl : Amts w q l) (ha : Rats w p3 a) (hb : Rats w p4 b) :
    Calls Try.prog 3 #[.slice p us.length cap, .slice q l.length capl, .int .i64 tt, .slice p3 a.length c3, .slice p4 b.length c4] w fun e w' => e = .returned (.bool true) ∧ Below w.heap.size w w' := by
  cases hs : smallB us l.length
  · exact mref_big p q p3 p4 cap capl c3 c4 us l tt a b w ht hl ha hb hs
  by_cases h1 : 60 < a.length
  · exact mref_a p q p3 p4 cap capl c3 c4 us l tt a b w ht hl ha hb hs h1
  by_cases h2 : 60 < b.length
  · exact mref_b p q p3 p4 cap capl c3 c4 us l tt a b w ht hl ha hb hs (by omega) h2
  have hsm := small_yes hs
  exact mref_go p q p3 p4 cap capl c3 c4 us l tt a b _ _ _ w ht hcap hl ha hb hs (by omega) (by omega) (by have := hsm.1; omega) hsm.2.1 rfl rfl
end Go.Proofs.Ytpdknjbhnelidaa

/- Sum, all cases; the walks of Basket, Convert. -/
import Derived.Test.YtpdknjbhnelidaaQtM
namespace Go.Proofs.Ytpdknjbhnelidaa
open Go.RowKit

theorem sum_any (p q : Option Addr) (cap capl : Nat) (us : List Qn.Un) (l : List Qn.Am) (tt : Int) (w : World) (ht : Tab w p us) (hcap : us.length ≤ cap) (hl : Amts w q l) (hll : l.length ≤ 1000) :
    Calls Try.prog 12 #[.slice p us.length cap, .slice q l.length capl, .int .i64 tt] w fun e w' => e = .returned (RA (Qn.sumS us l tt)) ∧ Below w.heap.size w w' := by
  by_cases ha : accB us l = true
  rotate_left
  · have h0 : Qn.sumS us l tt = (0, (0, 0), 1) := by
      unfold Qn.sumS
      rw [if_neg (fun k => ha ((accB_iff us l).2 ⟨k.1, k.2.1⟩))]
    rw [h0]
    exact sum_arg1 p q cap capl us l tt w ht hcap hl hll (by simpa using ha)
  obtain ⟨hag, hm⟩ := (accB_iff us l).1 ha
  by_cases hin : Qn.In us tt
  rotate_left
  · have h0 : Qn.sumS us l tt = (0, (0, 0), 1) := by
      unfold Qn.sumS
      rw [if_neg (fun k => hin k.2.2)]
    rw [h0]
    exact sum_arg2 p q cap capl us l tt w ht hcap hl hll ha (decide_eq_false hin)
  by_cases ho : l.any (othB us tt) = true
  · have h0 : Qn.sumS us l tt = (0, (0, 0), 11) := by
      unfold Qn.sumS
      rw [if_pos ⟨hag, hm, hin⟩, if_neg]
      intro k
      obtain ⟨a, h1, h2⟩ := List.any_eq_true.1 ho
      unfold othB at h2
      simp [k a h1] at h2
    rw [h0]
    exact sum_unit p q cap capl us l tt w ht hcap hl hll ha (decide_eq_true hin) hm hin ho
  have hsame : ∀ a ∈ l, (Qn.un us a.1).base = (Qn.un us tt).base := by
    intro a h1
    have := List.any_eq_false.1 (by simpa using ho) a h1
    unfold othB at this
    simpa using this
  have ho' : l.any (othB us tt) = false := by simpa using ho
  obtain ⟨jj, hj, hgj⟩ := in_nat hin
  subst hj
  have hjl : jj < us.length := (List.getElem?_eq_some_iff.1 hgj).1
  have hz : (Qn.zeros us.length)[jj]? = some (0, 1) := by unfold Qn.zeros; rw [List.getElem?_replicate, if_pos hjl]
  have hacc := acc_sum us (Qn.un us (jj : Int)).fac jj l (Qn.zeros us.length) (0, 1) hz
  have h0 : Qn.sumS us l (jj : Int) = Qn.amt jj (Qn.sumC (Qn.un us (jj : Int)).fac (0, 1) (Qn.vf us l)) := by
    unfold Qn.sumS
    rw [if_pos ⟨hag, hm, hin⟩, if_pos hsame]
  rw [h0]
  rcases hs : Qn.sumC (Qn.un us (jj : Int)).fac (0, 1) (Qn.vf us l) with ⟨x, y, e⟩
  rw [hs] at hacc
  unfold Qn.amt
  by_cases he : e = 0
  · subst he
    rw [if_pos rfl] at hacc
    simp only [if_true]
    exact sum_yes p q cap capl us l jj _ x y w ht hcap hl hll ha (decide_eq_true hin) hm hin ho' hag hjl hacc (by rw [List.getElem?_set_self]; exact (List.getElem?_eq_some_iff.1 hz).1)
  · rw [if_neg he] at hacc
    have he2 : e = 2 := by
      have : ∀ (l : List (Qn.R × Qn.R)) (s : Qn.R), (Qn.sumC (Qn.un us (jj : Int)).fac s l).2.2 ≠ 0 → (Qn.sumC (Qn.un us (jj : Int)).fac s l).2.2 = 2 := by
        intro l
        induction l with
        | nil => intro s h; exact absurd rfl h
        | cons a l ih =>
          intro s h
          rw [Qn.sumC] at h ⊢
          split
          · split
            · next h1 h2 => rw [if_pos h1, if_pos h2] at h; exact ih _ h
            · rfl
          · rfl
      have q := this (Qn.vf us l) (0, 1)
      rw [hs] at q
      exact q he
    subst he2
    simp only [if_neg he]
    exact sum_far p q cap capl us l jj w ht hcap hl hll ha (decide_eq_true hin) hm hin ho' hag hjl hacc
/-- what Basket answers -/
def BPost (w : World) (n : Nat) (r : Option (List Qn.R) × Int) (e : Ending) (w' : World) : Prop :=
  Below w.heap.size w w' ∧ ((∃ o g, r = (some o, 0) ∧ e = .returned (.tuple #[.slice (some ⟨g, 0, none⟩) n n, .int .i64 0]) ∧ w.heap.size ≤ g ∧ RRow w' g o) ∨ (∃ c, r = (none, c) ∧ c ≠ 0 ∧ e = .returned (.tuple #[.slice none 0 0, .int .i64 c])))
set_option maxRecDepth 100000 in
set_option maxHeartbeats 1600000 in
theorem basket_arg (p q : Option Addr) (cap capl : Nat) (us : List Qn.Un) (l : List Qn.Am) (w : World) (ht : Tab w p us) (hcap : us.length ≤ cap) (hl : Amts w q l) (hll : l.length ≤ 1000) (ha : accB us l = false) :
    Calls Try.prog 14 #[.slice p us.length cap, .slice q l.length capl] w (BPost w us.length (none, 1)) := by
  have HT0 := Lib.hid ht
  have HL0 := Lib.hid hl
  clear ht hl
  have HA := Lib.hid ha
  clear ha
  go_enter Try.func14, Try.ntmps14
  go_wp2_with fail
  obtain ⟨w1, hw1⟩ : ∃ W, W = (w.alloc (.cells #[.slice p us.length cap] 45)) := ⟨_, rfl⟩
  have bb1 : Below w.heap.size w w1 := by rw [hw1]; exact (by repeat (first | exact Below.refl _ _ | assumption | refine below_drewN ?_ _ | refine Below.setCell ?_ (by first | (simp; done) | (simp; omega)) _ | refine Below.alloc ?_ (by first | (simp; done) | (simp; omega) | omega) _ | refine Below.drew ?_ | refine Below.trans ?_ (Below.mono (by assumption) (by first | (simp; done) | (simp; omega) | omega))))
  have n1_t_0 : w1.cell? ⟨w.heap.size, 0, none⟩ = some (.slice p us.length cap) := by rw [hw1]; go_simp
  rw [← hw1]
  have hz1 := bb1.size
  (try simp at hz1)
  clear hw1
  have be1 : Below w.heap.size w w1 := bb1
  have c1_t_0 : w1.cell? ⟨w.heap.size, 0, none⟩ = some (.slice p us.length cap) := n1_t_0
  have l1_t : w.heap.size < w1.heap.size := World.block_lt_of_cell? w1 _ c1_t_0
  have m1_t : w.heap.size < w1.heap.size + 1 := by omega
  have HT1 := Lib.hid (HT0.out.below bb1)
  have HL1 := Lib.hid (HL0.out.below bb1)
  have BE1 := Lib.hid be1
  clear be1 bb1 HT0 HL0
  skip
  refine (accepts_any p q cap capl us l _ (HT1.out.below (by repeat (first | exact Below.refl _ _ | assumption | refine below_drewN ?_ _ | refine Below.setCell ?_ (by first | (simp; done) | (simp; omega)) _ | refine Below.alloc ?_ (by first | (simp; done) | (simp; omega) | omega) _ | refine Below.drew ?_ | refine Below.trans ?_ (Below.mono (by assumption) (by first | (simp; done) | (simp; omega) | omega))))) hcap (HL1.out.below (by repeat (first | exact Below.refl _ _ | assumption | refine below_drewN ?_ _ | refine Below.setCell ?_ (by first | (simp; done) | (simp; omega)) _ | refine Below.alloc ?_ (by first | (simp; done) | (simp; omega) | omega) _ | refine Below.drew ?_ | refine Below.trans ?_ (Below.mono (by assumption) (by first | (simp; done) | (simp; omega) | omega))))) hll).mono ?_
  rintro e w2 ⟨rfl, hb2⟩
  rw [HA.out]
  have hz2 := hb2.size
  (try simp at hz2)
  have bb2 : Below w1.heap.size w1 w2 := (by repeat (first | exact Below.refl _ _ | assumption | refine below_drewN ?_ _ | refine Below.setCell ?_ (by first | (simp; done) | (simp; omega)) _ | refine Below.alloc ?_ (by first | (simp; done) | (simp; omega) | omega) _ | refine Below.drew ?_ | refine Below.trans ?_ (Below.mono (by assumption) (by first | (simp; done) | (simp; omega) | omega))))
  have be2 : Below w.heap.size w w2 := BE1.out.trans (bb2.mono BE1.out.size)
  have c2_t_0 : w2.cell? ⟨w.heap.size, 0, none⟩ = some (.slice p us.length cap) := cell_keep bb2 c1_t_0
  have l2_t : w.heap.size < w2.heap.size := by omega
  have m2_t : w.heap.size < w2.heap.size + 1 := by omega
  have HT2 := Lib.hid (HT1.out.below bb2)
  have HL2 := Lib.hid (HL1.out.below bb2)
  have BE2 := Lib.hid be2
  clear be2 bb2 hb2 BE1 c1_t_0 l1_t m1_t HT1 HL1
  go_wp2_with fail
  go_ret2
  exact ⟨(by have q := BE2.out; repeat (first | exact q | refine Below.setCell ?_ (by first | (simp; done) | omega | (simp; omega)) _ | refine Below.alloc ?_ (by first | (simp; done) | omega | (simp; omega)) _ | refine below_drewN ?_ _ | refine Below.drew ?_)), .inr ⟨1, rfl, by decide, rfl⟩⟩
theorem base_nat {us : List Qn.Un} {i : Int} (hg : Qn.AllGood us) (h : Qn.In us i) : (Qn.un us i).base.toNat < us.length := by
  have q := Qn.base_in hg h
  have q1 := q.1
  have q2 := q.2
  omega
theorem conv_base (p : Option Addr) (cap : Nat) (a : Qn.Am) (us : List Qn.Un) (w : World) (hg : Qn.AllGood us) (ha : Qn.May us a) (ht : Tab w p us) :
    Calls Try.prog 32 #[.slice p us.length cap, AV a, .int .i64 ((Qn.un us a.1).base.toNat : Nat)] w fun e w' => e = .returned (RV (Qn.conv a.2 (Qn.un us a.1).fac (Qn.un us (Qn.un us a.1).base).fac)) ∧ Below w.heap.size w w' := by
  have hb := Qn.base_in hg ha.1
  rw [Int.toNat_of_nonneg hb.1]
  exact conv_am p cap a _ us w hg ha hb ht
set_option maxRecDepth 100000 in
set_option maxHeartbeats 1600000 in
theorem basket_far (p q : Option Addr) (cap capl : Nat) (us : List Qn.Un) (l : List Qn.Am) (w : World) (ht : Tab w p us) (hcap : us.length ≤ cap) (hl : Amts w q l) (hll : l.length ≤ 1000) (ha : accB us l = true) (hm : ∀ a ∈ l, Qn.May us a) (hag : Qn.AllGood us) (hres : accS (fun a => Qn.conv a.2 (Qn.un us a.1).fac (Qn.un us (Qn.un us a.1).base).fac) (fun a => (Qn.un us a.1).base.toNat) (Qn.zeros us.length) l = none) :
    Calls Try.prog 14 #[.slice p us.length cap, .slice q l.length capl] w (BPost w us.length (none, 2)) := by
  have HT0 := Lib.hid ht
  have HL0 := Lib.hid hl
  clear ht hl
  have hlen := good_len hag
  have HA := Lib.hid ha
  clear ha
  have HM := Lib.hid hm
  clear hm
  have HAG := Lib.hid hag
  clear hag
  have HRES := Lib.hid hres
  clear hres
  go_enter Try.func14, Try.ntmps14
  go_wp2_with fail
  obtain ⟨w1, hw1⟩ : ∃ W, W = (w.alloc (.cells #[.slice p us.length cap] 45)) := ⟨_, rfl⟩
  have bb1 : Below w.heap.size w w1 := by rw [hw1]; exact (by repeat (first | exact Below.refl _ _ | assumption | refine below_drewN ?_ _ | refine Below.setCell ?_ (by first | (simp; done) | (simp; omega)) _ | refine Below.alloc ?_ (by first | (simp; done) | (simp; omega) | omega) _ | refine Below.drew ?_ | refine Below.trans ?_ (Below.mono (by assumption) (by first | (simp; done) | (simp; omega) | omega))))
  have n1_t_0 : w1.cell? ⟨w.heap.size, 0, none⟩ = some (.slice p us.length cap) := by rw [hw1]; go_simp
  rw [← hw1]
  have hz1 := bb1.size
  (try simp at hz1)
  clear hw1
  have be1 : Below w.heap.size w w1 := bb1
  have c1_t_0 : w1.cell? ⟨w.heap.size, 0, none⟩ = some (.slice p us.length cap) := n1_t_0
  have l1_t : w.heap.size < w1.heap.size := World.block_lt_of_cell? w1 _ c1_t_0
  have m1_t : w.heap.size < w1.heap.size + 1 := by omega
  have HT1 := Lib.hid (HT0.out.below bb1)
  have HL1 := Lib.hid (HL0.out.below bb1)
  have BE1 := Lib.hid be1
  clear be1 bb1 HT0 HL0
  skip
  refine (accepts_any p q cap capl us l _ (HT1.out.below (by repeat (first | exact Below.refl _ _ | assumption | refine below_drewN ?_ _ | refine Below.setCell ?_ (by first | (simp; done) | (simp; omega)) _ | refine Below.alloc ?_ (by first | (simp; done) | (simp; omega) | omega) _ | refine Below.drew ?_ | refine Below.trans ?_ (Below.mono (by assumption) (by first | (simp; done) | (simp; omega) | omega))))) hcap (HL1.out.below (by repeat (first | exact Below.refl _ _ | assumption | refine below_drewN ?_ _ | refine Below.setCell ?_ (by first | (simp; done) | (simp; omega)) _ | refine Below.alloc ?_ (by first | (simp; done) | (simp; omega) | omega) _ | refine Below.drew ?_ | refine Below.trans ?_ (Below.mono (by assumption) (by first | (simp; done) | (simp; omega) | omega))))) hll).mono ?_
  rintro e w2 ⟨rfl, hb2⟩
  rw [HA.out]
  have hz2 := hb2.size
  (try simp at hz2)
  have bb2 : Below w1.heap.size w1 w2 := (by repeat (first | exact Below.refl _ _ | assumption | refine below_drewN ?_ _ | refine Below.setCell ?_ (by first | (simp; done) | (simp; omega)) _ | refine Below.alloc ?_ (by first | (simp; done) | (simp; omega) | omega) _ | refine Below.drew ?_ | refine Below.trans ?_ (Below.mono (by assumption) (by first | (simp; done) | (simp; omega) | omega))))
  have be2 : Below w.heap.size w w2 := BE1.out.trans (bb2.mono BE1.out.size)
  have c2_t_0 : w2.cell? ⟨w.heap.size, 0, none⟩ = some (.slice p us.length cap) := cell_keep bb2 c1_t_0
  have l2_t : w.heap.size < w2.heap.size := by omega
  have m2_t : w.heap.size < w2.heap.size + 1 := by omega
  have HT2 := Lib.hid (HT1.out.below bb2)
  have HL2 := Lib.hid (HL1.out.below bb2)
  have BE2 := Lib.hid be2
  clear be2 bb2 hb2 BE1 c1_t_0 l1_t m1_t HT1 HL1
  go_wp2_with fail
  refine (add_basket p q (some ⟨w.heap.size, 0, none⟩) cap capl us.length us.length l (fun a => Qn.conv a.2 (Qn.un us a.1).fac (Qn.un us (Qn.un us a.1).base).fac) (fun a => (Qn.un us a.1).base.toNat) _ _ hlen hll (HL2.out.below (by repeat (first | exact Below.refl _ _ | assumption | refine below_drewN ?_ _ | refine Below.setCell ?_ (by first | (simp; done) | (simp; omega)) _ | refine Below.alloc ?_ (by first | (simp; done) | (simp; omega) | omega) _ | refine Below.drew ?_ | refine Below.trans ?_ (Below.mono (by assumption) (by first | (simp; done) | (simp; omega) | omega))))) (fun k a w' hk hb => base_am p cap w.heap.size a us w' HAG.out (HM.out a (List.mem_of_getElem? hk)).1 (HT2.out.below hb) (Nat.lt_of_lt_of_le l2_t hb.size) (cell_keep hb c2_t_0)) (fun k a w' hk hb => conv_base p cap a us w' HAG.out (HM.out a (List.mem_of_getElem? hk)) (HT2.out.below hb)) (fun a ha => base_nat HAG.out (HM.out a ha).1) (fun a ha => conv_two (HM.out a ha).2 (Qn.fac_un HAG.out (HM.out a ha).1) (Qn.fac_un HAG.out (Qn.base_in HAG.out (HM.out a ha).1))) HRES.out).mono ?_
  rintro e w3 ⟨hb3, hpost⟩
  have hz3 := hb3.size
  (try simp at hz3)
  have bb3 : Below w2.heap.size w2 w3 := (by repeat (first | exact Below.refl _ _ | assumption | refine below_drewN ?_ _ | refine Below.setCell ?_ (by first | (simp; done) | (simp; omega)) _ | refine Below.alloc ?_ (by first | (simp; done) | (simp; omega) | omega) _ | refine Below.drew ?_ | refine Below.trans ?_ (Below.mono (by assumption) (by first | (simp; done) | (simp; omega) | omega))))
  have be3 : Below w.heap.size w w3 := BE2.out.trans (bb3.mono BE2.out.size)
  have c3_t_0 : w3.cell? ⟨w.heap.size, 0, none⟩ = some (.slice p us.length cap) := cell_keep bb3 c2_t_0
  have l3_t : w.heap.size < w3.heap.size := by omega
  have m3_t : w.heap.size < w3.heap.size + 1 := by omega
  have HT3 := Lib.hid (HT2.out.below bb3)
  have HL3 := Lib.hid (HL2.out.below bb3)
  obtain ⟨_, rfl⟩ := hpost.resolve_left (fun h => by obtain ⟨_, _, h, _⟩ := h; cases h)
  have BE3 := Lib.hid be3
  clear be3 bb3 hb3 BE2 c2_t_0 l2_t m2_t HT2 HL2
  go_wp2_with fail
  go_ret2
  exact ⟨(by have q := BE3.out; repeat (first | exact q | refine Below.setCell ?_ (by first | (simp; done) | omega | (simp; omega)) _ | refine Below.alloc ?_ (by first | (simp; done) | omega | (simp; omega)) _ | refine below_drewN ?_ _ | refine Below.drew ?_)), .inr ⟨2, rfl, by decide, rfl⟩⟩
set_option maxRecDepth 100000 in
set_option maxHeartbeats 1600000 in
theorem basket_yes (p q : Option Addr) (cap capl : Nat) (us : List Qn.Un) (l : List Qn.Am) (o : List Qn.R) (w : World) (ht : Tab w p us) (hcap : us.length ≤ cap) (hl : Amts w q l) (hll : l.length ≤ 1000) (ha : accB us l = true) (hm : ∀ a ∈ l, Qn.May us a) (hag : Qn.AllGood us) (hres : accS (fun a => Qn.conv a.2 (Qn.un us a.1).fac (Qn.un us (Qn.un us a.1).base).fac) (fun a => (Qn.un us a.1).base.toNat) (Qn.zeros us.length) l = some o) :
    Calls Try.prog 14 #[.slice p us.length cap, .slice q l.length capl] w (BPost w us.length (some o, 0)) := by
  have HT0 := Lib.hid ht
  have HL0 := Lib.hid hl
  clear ht hl
  have hlen := good_len hag
  have HA := Lib.hid ha
  clear ha
  have HM := Lib.hid hm
  clear hm
  have HAG := Lib.hid hag
  clear hag
  have HRES := Lib.hid hres
  clear hres
  go_enter Try.func14, Try.ntmps14
  go_wp2_with fail
  obtain ⟨w1, hw1⟩ : ∃ W, W = (w.alloc (.cells #[.slice p us.length cap] 45)) := ⟨_, rfl⟩
  have bb1 : Below w.heap.size w w1 := by rw [hw1]; exact (by repeat (first | exact Below.refl _ _ | assumption | refine below_drewN ?_ _ | refine Below.setCell ?_ (by first | (simp; done) | (simp; omega)) _ | refine Below.alloc ?_ (by first | (simp; done) | (simp; omega) | omega) _ | refine Below.drew ?_ | refine Below.trans ?_ (Below.mono (by assumption) (by first | (simp; done) | (simp; omega) | omega))))
  have n1_t_0 : w1.cell? ⟨w.heap.size, 0, none⟩ = some (.slice p us.length cap) := by rw [hw1]; go_simp
  rw [← hw1]
  have hz1 := bb1.size
  (try simp at hz1)
  clear hw1
  have be1 : Below w.heap.size w w1 := bb1
  have c1_t_0 : w1.cell? ⟨w.heap.size, 0, none⟩ = some (.slice p us.length cap) := n1_t_0
  have l1_t : w.heap.size < w1.heap.size := World.block_lt_of_cell? w1 _ c1_t_0
  have m1_t : w.heap.size < w1.heap.size + 1 := by omega
  have HT1 := Lib.hid (HT0.out.below bb1)
  have HL1 := Lib.hid (HL0.out.below bb1)
  have BE1 := Lib.hid be1
  clear be1 bb1 HT0 HL0
  skip
  refine (accepts_any p q cap capl us l _ (HT1.out.below (by repeat (first | exact Below.refl _ _ | assumption | refine below_drewN ?_ _ | refine Below.setCell ?_ (by first | (simp; done) | (simp; omega)) _ | refine Below.alloc ?_ (by first | (simp; done) | (simp; omega) | omega) _ | refine Below.drew ?_ | refine Below.trans ?_ (Below.mono (by assumption) (by first | (simp; done) | (simp; omega) | omega))))) hcap (HL1.out.below (by repeat (first | exact Below.refl _ _ | assumption | refine below_drewN ?_ _ | refine Below.setCell ?_ (by first | (simp; done) | (simp; omega)) _ | refine Below.alloc ?_ (by first | (simp; done) | (simp; omega) | omega) _ | refine Below.drew ?_ | refine Below.trans ?_ (Below.mono (by assumption) (by first | (simp; done) | (simp; omega) | omega))))) hll).mono ?_
  rintro e w2 ⟨rfl, hb2⟩
  rw [HA.out]
  have hz2 := hb2.size
  (try simp at hz2)
  have bb2 : Below w1.heap.size w1 w2 := (by repeat (first | exact Below.refl _ _ | assumption | refine below_drewN ?_ _ | refine Below.setCell ?_ (by first | (simp; done) | (simp; omega)) _ | refine Below.alloc ?_ (by first | (simp; done) | (simp; omega) | omega) _ | refine Below.drew ?_ | refine Below.trans ?_ (Below.mono (by assumption) (by first | (simp; done) | (simp; omega) | omega))))
  have be2 : Below w.heap.size w w2 := BE1.out.trans (bb2.mono BE1.out.size)
  have c2_t_0 : w2.cell? ⟨w.heap.size, 0, none⟩ = some (.slice p us.length cap) := cell_keep bb2 c1_t_0
  have l2_t : w.heap.size < w2.heap.size := by omega
  have m2_t : w.heap.size < w2.heap.size + 1 := by omega
  have HT2 := Lib.hid (HT1.out.below bb2)
  have HL2 := Lib.hid (HL1.out.below bb2)
  have BE2 := Lib.hid be2
  clear be2 bb2 hb2 BE1 c1_t_0 l1_t m1_t HT1 HL1
  go_wp2_with fail
  refine (add_basket p q (some ⟨w.heap.size, 0, none⟩) cap capl us.length us.length l (fun a => Qn.conv a.2 (Qn.un us a.1).fac (Qn.un us (Qn.un us a.1).base).fac) (fun a => (Qn.un us a.1).base.toNat) _ _ hlen hll (HL2.out.below (by repeat (first | exact Below.refl _ _ | assumption | refine below_drewN ?_ _ | refine Below.setCell ?_ (by first | (simp; done) | (simp; omega)) _ | refine Below.alloc ?_ (by first | (simp; done) | (simp; omega) | omega) _ | refine Below.drew ?_ | refine Below.trans ?_ (Below.mono (by assumption) (by first | (simp; done) | (simp; omega) | omega))))) (fun k a w' hk hb => base_am p cap w.heap.size a us w' HAG.out (HM.out a (List.mem_of_getElem? hk)).1 (HT2.out.below hb) (Nat.lt_of_lt_of_le l2_t hb.size) (cell_keep hb c2_t_0)) (fun k a w' hk hb => conv_base p cap a us w' HAG.out (HM.out a (List.mem_of_getElem? hk)) (HT2.out.below hb)) (fun a ha => base_nat HAG.out (HM.out a ha).1) (fun a ha => conv_two (HM.out a ha).2 (Qn.fac_un HAG.out (HM.out a ha).1) (Qn.fac_un HAG.out (Qn.base_in HAG.out (HM.out a ha).1))) HRES.out).mono ?_
  rintro e w3 ⟨hb3, hpost⟩
  have hz3 := hb3.size
  (try simp at hz3)
  have bb3 : Below w2.heap.size w2 w3 := (by repeat (first | exact Below.refl _ _ | assumption | refine below_drewN ?_ _ | refine Below.setCell ?_ (by first | (simp; done) | (simp; omega)) _ | refine Below.alloc ?_ (by first | (simp; done) | (simp; omega) | omega) _ | refine Below.drew ?_ | refine Below.trans ?_ (Below.mono (by assumption) (by first | (simp; done) | (simp; omega) | omega))))
  have be3 : Below w.heap.size w w3 := BE2.out.trans (bb3.mono BE2.out.size)
  have c3_t_0 : w3.cell? ⟨w.heap.size, 0, none⟩ = some (.slice p us.length cap) := cell_keep bb3 c2_t_0
  have l3_t : w.heap.size < w3.heap.size := by omega
  have m3_t : w.heap.size < w3.heap.size + 1 := by omega
  have HT3 := Lib.hid (HT2.out.below bb3)
  have HL3 := Lib.hid (HL2.out.below bb3)
  obtain ⟨o', g, ho', rfl, hg, hrow⟩ := hpost.resolve_right (fun h => by cases h.1)
  cases ho'
  have HRW := Lib.hid hrow
  have hgw : w.heap.size ≤ g := by omega
  clear hpost hrow
  have BE3 := Lib.hid be3
  clear be3 bb3 hb3 BE2 c2_t_0 l2_t m2_t HT2 HL2
  go_wp2_with fail
  go_ret2
  exact ⟨(by have q := BE3.out; repeat (first | exact q | refine Below.setCell ?_ (by first | (simp; done) | omega | (simp; omega)) _ | refine Below.alloc ?_ (by first | (simp; done) | omega | (simp; omega)) _ | refine below_drewN ?_ _ | refine Below.drew ?_)), .inl ⟨o, g, rfl, rfl, hgw, HRW.out⟩⟩
theorem basket_any (p q : Option Addr) (cap capl : Nat) (us : List Qn.Un) (l : List Qn.Am) (w : World) (ht : Tab w p us) (hcap : us.length ≤ cap) (hl : Amts w q l) (hll : l.length ≤ 1000) :
    Calls Try.prog 14 #[.slice p us.length cap, .slice q l.length capl] w (BPost w us.length (Qn.basketS us l)) := by
  by_cases ha : accB us l = true
  rotate_left
  · have h0 : Qn.basketS us l = (none, 1) := by
      unfold Qn.basketS
      rw [if_neg (fun k => ha ((accB_iff us l).2 k))]
    rw [h0]
    exact basket_arg p q cap capl us l w ht hcap hl hll (by simpa using ha)
  obtain ⟨hag, hm⟩ := (accB_iff us l).1 ha
  have hacc := acc_bask us l (Qn.zeros us.length) (fun a h => Qn.base_fac hag (Qn.base_in hag (hm a h).1) (Qn.base_base hag (hm a h).1))
  unfold Qn.basketS
  rw [if_pos ⟨hag, hm⟩]
  rcases hb : Qn.bask (Qn.zeros us.length) (Qn.bvf us l) with _ | o
  · exact basket_far p q cap capl us l w ht hcap hl hll ha hm hag (hacc.trans hb)
  · exact basket_yes p q cap capl us l o w ht hcap hl hll ha hm hag (hacc.trans hb)
theorem convert_sum (us : List Qn.Un) (a : Qn.Am) (tt : Int) : Qn.sumS us [a] tt = Qn.convertS us a tt := by
  unfold Qn.sumS Qn.convertS
  by_cases h : Qn.AllGood us ∧ Qn.May us a ∧ Qn.In us tt
  · rw [if_pos ⟨h.1, by simpa using h.2.1, h.2.2⟩, if_pos h]
    by_cases hb : (Qn.un us a.1).base = (Qn.un us tt).base
    · rw [if_pos (by simpa using hb), if_pos hb]
      congr 1
      have f1 := Qn.fac_un h.1 h.2.1.1
      have f2 := Qn.fac_un h.1 h.2.2
      rcases conv_two h.2.1.2 f1 f2 with ⟨x, y, hc, hxy⟩ | hc
      · have hz : Rt.addS (0 : Int) 1 x y = (x, y, 0) := Qn.add_of_val (a := (0, 1)) (b := (x, y)) (c := (x, y)) Qn.nil_ok hxy hxy (by rw [Qn.nil_val, Rat.zero_add])
        simp only [Qn.vf, List.map_cons, List.map_nil, Qn.sumC, hc, hz, if_true]
      · simp only [Qn.vf, List.map_cons, List.map_nil, Qn.sumC, hc]
        rfl
    · rw [if_neg (fun k => hb (by simpa using k)), if_neg hb]
  · rw [if_neg (fun k => h ⟨k.1, by simpa using k.2.1, k.2.2⟩), if_neg h]
set_option maxRecDepth 100000 in
set_option maxHeartbeats 1600000 in
theorem convert_one (p : Option Addr) (cap : Nat) (us : List Qn.Un) (a : Qn.Am) (tt tt' x y e' : Int) (w : World) (ht : Tab w p us) (hcap : us.length ≤ cap) (h64 : B64 a.2.1) (hc : Qn.convertS us a tt = (tt', (x, y), e')) :
    Calls Try.prog 10 #[.slice p us.length cap, .agg #[.int .i64 a.1, .int .i64 a.2.1, .int .i64 a.2.2], .int .i64 tt] w fun e w' => e = .returned (RA (tt', (x, y), e')) ∧ Below w.heap.size w w' := by
  have HT0 := Lib.hid ht
  clear ht
  have HC := Lib.hid hc
  clear hc
  go_enter Try.func10, Try.ntmps10
  go_wp2_with fail
  have hq : Fr3 (((w.alloc (.cells #[.int .i64 a.1, .int .i64 a.2.1, .int .i64 a.2.2] 33)).alloc (.cells #[.int .i64 0, .int .i64 0, .int .i64 0] 33)).alloc (.cells #[.int .i64 a.1, .int .i64 a.2.1, .int .i64 a.2.2] 33)) (w.heap.size + 1) := ⟨by simp, by go_simp, by go_simp, by go_simp⟩
  obtain ⟨w1, hw1⟩ : ∃ W, W = (((w.alloc (.cells #[.int .i64 a.1, .int .i64 a.2.1, .int .i64 a.2.2] 33)).alloc (.cells #[.int .i64 0, .int .i64 0, .int .i64 0] 33)).alloc (.cells #[.int .i64 a.1, .int .i64 a.2.1, .int .i64 a.2.2] 33)) := ⟨_, rfl⟩
  have bb1 : Below w.heap.size w w1 := by rw [hw1]; exact (by repeat (first | exact Below.refl _ _ | assumption | refine below_drewN ?_ _ | refine Below.setCell ?_ (by first | (simp; done) | (simp; omega)) _ | refine Below.alloc ?_ (by first | (simp; done) | (simp; omega) | omega) _ | refine Below.drew ?_ | refine Below.trans ?_ (Below.mono (by assumption) (by first | (simp; done) | (simp; omega) | omega))))
  have n1_r_0 : w1.cell? ⟨w.heap.size + 1, 0, none⟩ = some (.int .i64 0) := by rw [hw1]; go_simp
  have n1_r_1 : w1.cell? ⟨w.heap.size + 1, 1, none⟩ = some (.int .i64 0) := by rw [hw1]; go_simp
  have n1_r_2 : w1.cell? ⟨w.heap.size + 1, 2, none⟩ = some (.int .i64 0) := by rw [hw1]; go_simp
  have n1_l_0 : w1.cell? ⟨w.heap.size + 2, 0, none⟩ = some (.int .i64 a.1) := by rw [hw1]; go_simp
  have n1_l_1 : w1.cell? ⟨w.heap.size + 2, 1, none⟩ = some (.int .i64 a.2.1) := by rw [hw1]; go_simp
  have n1_l_2 : w1.cell? ⟨w.heap.size + 2, 2, none⟩ = some (.int .i64 a.2.2) := by rw [hw1]; go_simp
  rw [← hw1]
  rw [← hw1] at hq
  have hz1 := bb1.size
  (try simp at hz1)
  clear hw1
  have be1 : Below w.heap.size w w1 := bb1
  have c1_r_0 : w1.cell? ⟨w.heap.size + 1, 0, none⟩ = some (.int .i64 0) := n1_r_0
  have c1_r_1 : w1.cell? ⟨w.heap.size + 1, 1, none⟩ = some (.int .i64 0) := n1_r_1
  have c1_r_2 : w1.cell? ⟨w.heap.size + 1, 2, none⟩ = some (.int .i64 0) := n1_r_2
  have l1_r : w.heap.size + 1 < w1.heap.size := World.block_lt_of_cell? w1 _ c1_r_0
  have m1_r : w.heap.size + 1 < w1.heap.size + 1 := by omega
  have c1_l_0 : w1.cell? ⟨w.heap.size + 2, 0, none⟩ = some (.int .i64 a.1) := n1_l_0
  have c1_l_1 : w1.cell? ⟨w.heap.size + 2, 1, none⟩ = some (.int .i64 a.2.1) := n1_l_1
  have c1_l_2 : w1.cell? ⟨w.heap.size + 2, 2, none⟩ = some (.int .i64 a.2.2) := n1_l_2
  have l1_l : w.heap.size + 2 < w1.heap.size := World.block_lt_of_cell? w1 _ c1_l_0
  have m1_l : w.heap.size + 2 < w1.heap.size + 1 := by omega
  have HT1 := Lib.hid (HT0.out.below bb1)
  have BE1 := Lib.hid be1
  clear be1 bb1 HT0
  have HFR1 := Lib.hid hq
  clear hq
  skip
  refine (sum_any p (some ⟨w.heap.size + 2, 0, none⟩) cap 1 us [a] tt _ (HT1.out.below (by repeat (first | exact Below.refl _ _ | assumption | refine below_drewN ?_ _ | refine Below.setCell ?_ (by first | (simp; done) | (simp; omega)) _ | refine Below.alloc ?_ (by first | (simp; done) | (simp; omega) | omega) _ | refine Below.drew ?_ | refine Below.trans ?_ (Below.mono (by assumption) (by first | (simp; done) | (simp; omega) | omega))))) hcap ⟨fun b hb => by rw [List.mem_singleton.1 hb]; exact h64, .inr ⟨_, 0, rfl, fun j b hj => by match j, hj with | 0, hj => (cases hj; exact ⟨c1_l_0, c1_l_1, c1_l_2⟩)⟩⟩ (by simp)).mono ?_
  rintro e w2 ⟨rfl, hb2⟩
  rw [convert_sum, HC.out]
  simp only [RA]
  have hz2 := hb2.size
  (try simp at hz2)
  have bb2 : Below w1.heap.size w1 w2 := (by repeat (first | exact Below.refl _ _ | assumption | refine below_drewN ?_ _ | refine Below.setCell ?_ (by first | (simp; done) | (simp; omega)) _ | refine Below.alloc ?_ (by first | (simp; done) | (simp; omega) | omega) _ | refine Below.drew ?_ | refine Below.trans ?_ (Below.mono (by assumption) (by first | (simp; done) | (simp; omega) | omega))))
  have be2 : Below w.heap.size w w2 := BE1.out.trans (bb2.mono BE1.out.size)
  have c2_r_0 : w2.cell? ⟨w.heap.size + 1, 0, none⟩ = some (.int .i64 0) := cell_keep bb2 c1_r_0
  have c2_r_1 : w2.cell? ⟨w.heap.size + 1, 1, none⟩ = some (.int .i64 0) := cell_keep bb2 c1_r_1
  have c2_r_2 : w2.cell? ⟨w.heap.size + 1, 2, none⟩ = some (.int .i64 0) := cell_keep bb2 c1_r_2
  have l2_r : w.heap.size + 1 < w2.heap.size := by omega
  have m2_r : w.heap.size + 1 < w2.heap.size + 1 := by omega
  have c2_l_0 : w2.cell? ⟨w.heap.size + 2, 0, none⟩ = some (.int .i64 a.1) := cell_keep bb2 c1_l_0
  have c2_l_1 : w2.cell? ⟨w.heap.size + 2, 1, none⟩ = some (.int .i64 a.2.1) := cell_keep bb2 c1_l_1
  have c2_l_2 : w2.cell? ⟨w.heap.size + 2, 2, none⟩ = some (.int .i64 a.2.2) := cell_keep bb2 c1_l_2
  have l2_l : w.heap.size + 2 < w2.heap.size := by omega
  have m2_l : w.heap.size + 2 < w2.heap.size + 1 := by omega
  have HT2 := Lib.hid (HT1.out.below bb2)
  have HFR2 := Lib.hid (HFR1.out.below bb2)
  have BE2 := Lib.hid be2
  clear be2 bb2 hb2 BE1 c1_r_0 c1_r_1 c1_r_2 l1_r m1_r c1_l_0 c1_l_1 c1_l_2 l1_l m1_l HT1 HFR1
  obtain ⟨fr0, fr1, fr2, fr3⟩ := HFR2.out
  go_wp2_with fail
  refine bodyPost_ret (v := RA (tt', (x, y), e')) (by simp [results, Try.results10, go_sem, RA, c2_r_0, c2_r_1, c2_r_2]) rfl ⟨rfl, (by have q := BE2.out; repeat (first | exact q | refine Below.setCell ?_ (by first | (simp; done) | omega | (simp; omega)) _ | refine Below.alloc ?_ (by first | (simp; done) | omega | (simp; omega)) _ | refine below_drewN ?_ _ | refine Below.drew ?_))⟩
theorem conv_any (p : Option Addr) (cap : Nat) (us : List Qn.Un) (a : Qn.Am) (tt : Int) (w : World) (ht : Tab w p us) (hcap : us.length ≤ cap) (h64 : B64 a.2.1) :
    Calls Try.prog 10 #[.slice p us.length cap, .agg #[.int .i64 a.1, .int .i64 a.2.1, .int .i64 a.2.2], .int .i64 tt] w fun e w' => e = .returned (RA (Qn.convertS us a tt)) ∧ Below w.heap.size w w' :=
  convert_one p cap us a tt _ _ _ _ w ht hcap h64 rfl
end Go.Proofs.Ytpdknjbhnelidaa

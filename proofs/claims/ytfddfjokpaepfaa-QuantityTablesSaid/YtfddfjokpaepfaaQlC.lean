/- QuantityCovers: rows of the law's own, and the walk of the law. -/
import Derived.Test.YtfddfjokpaepfaaQlL
import Derived.Maps.AppendAt
import Derived.Laws.OwnMore
namespace Go.Proofs.Ytfddfjokpaepfaa
open Go.RowKit

theorem cellsR_app : ∀ (a b : List Qn.R), cellsR (a ++ b) = cellsR a ++ cellsR b
  | [], _ => rfl
  | x :: a, b => by rw [List.cons_append, cellsR, cellsR, cellsR_app a b]; rfl
theorem cellsR_len : ∀ (a : List Qn.R), (cellsR a).length = a.length * 2
  | [] => rfl
  | x :: a => by rw [cellsR, List.length_cons, List.length_cons, List.length_cons, cellsR_len a]; omega
theorem cell_two_new (w : World) (x y : Value) (t : TypeId) : ∀ j u, [x, y][j]? = some u → (w.alloc (.cells #[x, y] t)).cell? ((⟨w.heap.size, 0, none⟩ : Addr).add j) = some u := by
  intro j u hj
  have e := World.alloc_heap_new w (.cells #[x, y] t)
  rw [Go.WideShapes.add_plain, Nat.zero_add]
  match j, hj with
  | 0, hj =>
    simp only [List.getElem?_cons_zero, Option.some.injEq] at hj
    subst hj
    simp only [World.cell?, e]
    rfl
  | 1, hj =>
    simp only [List.getElem?_cons_succ, List.getElem?_cons_zero, Option.some.injEq] at hj
    subst hj
    simp only [World.cell?, e]
    rfl
/-- a list of ratios in a row of the law's own -/
def OwnR (w : World) (base : Nat) (v : Value) (l : List Qn.R) : Prop := w.ownsRow base 31 2 v l.length (cellsR l)
theorem OwnR.rats {w : World} {base : Nat} {v : Value} {l : List Qn.R} (h : OwnR w base v l) (h64 : ∀ r ∈ l, B64 r.1) : ∃ q cap, v = .slice q l.length cap ∧ Rats w q l := by
  rcases h.2 with ⟨hv, h0⟩ | ⟨g, cap, cur, hv, _, hg, _, _, _, ht⟩
  · obtain rfl := List.length_eq_zero_iff.1 h0
    exact ⟨none, 0, hv, (fun x hx => by cases hx), .inl rfl⟩
  · refine ⟨_, cap, hv, h64, .inr ⟨g, 0, rfl, fun j r hr => ?_⟩⟩
    obtain ⟨h1, h2⟩ := cellsR_get l j r hr
    have key : ∀ (i : Nat) (u : Value), (cellsR l)[i]? = some u → w.cell? ⟨g, i, none⟩ = some u := fun i u hu => by
      rw [← ht, List.getElem?_take] at hu
      split at hu
      · simp [World.cell?, hg]
        simpa using hu
      · cases hu
    rw [Nat.zero_add]
    exact ⟨key _ _ h1, key _ _ h2⟩
theorem OwnR.below {w w' : World} {base : Nat} {v : Value} {l : List Qn.R} (h : OwnR w base v l) (hb : Below w.heap.size w w') : OwnR w' base v l := by
  obtain ⟨h1, h2⟩ := h
  refine ⟨h1, h2.imp id ?_⟩
  rintro ⟨g, cap, cur, hv, hbg, hg, h3⟩
  exact ⟨g, cap, cur, hv, hbg, (hb.block g (Array.getElem?_eq_some_iff.1 hg).1).trans hg, h3⟩
/-- two rows that share no block -/
def Apart (x y : Value) : Prop := x.ownBlock = none ∨ x.ownBlock ≠ y.ownBlock
set_option maxRecDepth 100000 in
set_option maxHeartbeats 1600000 in
theorem cov_len1 (p1 p2 p3 p4 : Option Addr) (c1 c2 c3 c4 : Nat) (a b c d : List Qn.R) (w : World) (ha : Rats w p1 a) (hb : Rats w p2 b) (hc : Rats w p3 c) (hd : Rats w p4 d) (h1 : 60 < a.length) :
    Calls Try.prog 10 #[.slice p1 a.length c1, .slice p2 b.length c2, .slice p3 c.length c3, .slice p4 d.length c4] w fun e w' => e = .returned (.bool true) ∧ Below w.heap.size w w' := by
  have HA0 := Lib.hid ha
  have HB0 := Lib.hid hb
  have HC0 := Lib.hid hc
  have HD0 := Lib.hid hd
  clear ha hb hc hd
  go_enter Try.func10, Try.ntmps10
  go_wp2_with fail
  refine (head_any _).mono ?_
  rintro e w1 ⟨rfl, hb1⟩
  have hz1 := hb1.size
  (try simp at hz1)
  have bb1 : Below w.heap.size w w1 := (by repeat (first | exact Below.refl _ _ | assumption | refine below_drewN ?_ _ | refine Below.setCell ?_ (by first | (simp; done) | (simp; omega)) _ | refine Below.alloc ?_ (by first | (simp; done) | (simp; omega) | omega) _ | refine Below.drew ?_ | refine Below.trans ?_ (Below.mono (by assumption) (by first | (simp; done) | (simp; omega) | omega))))
  have be1 : Below w.heap.size w w1 := bb1
  have HA1 := Lib.hid (HA0.out.below bb1)
  have HB1 := Lib.hid (HB0.out.below bb1)
  have HC1 := Lib.hid (HC0.out.below bb1)
  have HD1 := Lib.hid (HD0.out.below bb1)
  have BE1 := Lib.hid be1
  clear be1 bb1 hb1 HA0 HB0 HC0 HD0
  go_wp2_with fail
  go_ret
  exact ⟨rfl, (by have q := BE1.out; repeat (first | exact q | refine Below.setCell ?_ (by first | (simp; done) | omega | (simp; omega)) _ | refine Below.alloc ?_ (by first | (simp; done) | omega | (simp; omega)) _ | refine below_drewN ?_ _ | refine Below.drew ?_))⟩
set_option maxRecDepth 100000 in
set_option maxHeartbeats 1600000 in
theorem cov_len2 (p1 p2 p3 p4 : Option Addr) (c1 c2 c3 c4 : Nat) (a b c d : List Qn.R) (w : World) (ha : Rats w p1 a) (hb : Rats w p2 b) (hc : Rats w p3 c) (hd : Rats w p4 d) (h1 : a.length ≤ 60) (h2 : 60 < b.length) :
    Calls Try.prog 10 #[.slice p1 a.length c1, .slice p2 b.length c2, .slice p3 c.length c3, .slice p4 d.length c4] w fun e w' => e = .returned (.bool true) ∧ Below w.heap.size w w' := by
  have HA0 := Lib.hid ha
  have HB0 := Lib.hid hb
  have HC0 := Lib.hid hc
  have HD0 := Lib.hid hd
  clear ha hb hc hd
  go_enter Try.func10, Try.ntmps10
  go_wp2_with fail
  refine (head_any _).mono ?_
  rintro e w1 ⟨rfl, hb1⟩
  have hz1 := hb1.size
  (try simp at hz1)
  have bb1 : Below w.heap.size w w1 := (by repeat (first | exact Below.refl _ _ | assumption | refine below_drewN ?_ _ | refine Below.setCell ?_ (by first | (simp; done) | (simp; omega)) _ | refine Below.alloc ?_ (by first | (simp; done) | (simp; omega) | omega) _ | refine Below.drew ?_ | refine Below.trans ?_ (Below.mono (by assumption) (by first | (simp; done) | (simp; omega) | omega))))
  have be1 : Below w.heap.size w w1 := bb1
  have HA1 := Lib.hid (HA0.out.below bb1)
  have HB1 := Lib.hid (HB0.out.below bb1)
  have HC1 := Lib.hid (HC0.out.below bb1)
  have HD1 := Lib.hid (HD0.out.below bb1)
  have BE1 := Lib.hid be1
  clear be1 bb1 hb1 HA0 HB0 HC0 HD0
  go_wp2_with fail
  go_ret
  exact ⟨rfl, (by have q := BE1.out; repeat (first | exact q | refine Below.setCell ?_ (by first | (simp; done) | omega | (simp; omega)) _ | refine Below.alloc ?_ (by first | (simp; done) | omega | (simp; omega)) _ | refine below_drewN ?_ _ | refine Below.drew ?_))⟩
set_option maxRecDepth 100000 in
set_option maxHeartbeats 1600000 in
theorem cov_len3 (p1 p2 p3 p4 : Option Addr) (c1 c2 c3 c4 : Nat) (a b c d : List Qn.R) (w : World) (ha : Rats w p1 a) (hb : Rats w p2 b) (hc : Rats w p3 c) (hd : Rats w p4 d) (h1 : a.length ≤ 60) (h2 : b.length ≤ 60) (h3 : 60 < c.length) :
    Calls Try.prog 10 #[.slice p1 a.length c1, .slice p2 b.length c2, .slice p3 c.length c3, .slice p4 d.length c4] w fun e w' => e = .returned (.bool true) ∧ Below w.heap.size w w' := by
  have HA0 := Lib.hid ha
  have HB0 := Lib.hid hb
  have HC0 := Lib.hid hc
  have HD0 := Lib.hid hd
  clear ha hb hc hd
  go_enter Try.func10, Try.ntmps10
  go_wp2_with fail
  refine (head_any _).mono ?_
  rintro e w1 ⟨rfl, hb1⟩
  have hz1 := hb1.size
  (try simp at hz1)
  have bb1 : Below w.heap.size w w1 := (by repeat (first | exact Below.refl _ _ | assumption | refine below_drewN ?_ _ | refine Below.setCell ?_ (by first | (simp; done) | (simp; omega)) _ | refine Below.alloc ?_ (by first | (simp; done) | (simp; omega) | omega) _ | refine Below.drew ?_ | refine Below.trans ?_ (Below.mono (by assumption) (by first | (simp; done) | (simp; omega) | omega))))
  have be1 : Below w.heap.size w w1 := bb1
  have HA1 := Lib.hid (HA0.out.below bb1)
  have HB1 := Lib.hid (HB0.out.below bb1)
  have HC1 := Lib.hid (HC0.out.below bb1)
  have HD1 := Lib.hid (HD0.out.below bb1)
  have BE1 := Lib.hid be1
  clear be1 bb1 hb1 HA0 HB0 HC0 HD0
  go_wp2_with fail
  go_ret
  exact ⟨rfl, (by have q := BE1.out; repeat (first | exact q | refine Below.setCell ?_ (by first | (simp; done) | omega | (simp; omega)) _ | refine Below.alloc ?_ (by first | (simp; done) | omega | (simp; omega)) _ | refine below_drewN ?_ _ | refine Below.drew ?_))⟩
set_option maxRecDepth 100000 in
set_option maxHeartbeats 1600000 in
theorem cov_aa (p1 p2 p3 p4 : Option Addr) (c1 c2 c3 c4 : Nat) (a b c d : List Qn.R) (w : World) (ha : Rats w p1 a) (hb : Rats w p2 b) (hc : Rats w p3 c) (hd : Rats w p4 d) (h1 : a.length ≤ 60) (h2 : b.length ≤ 60) (h3 : c.length ≤ 60) (hx1 : covB a a = false) :
    Calls Try.prog 10 #[.slice p1 a.length c1, .slice p2 b.length c2, .slice p3 c.length c3, .slice p4 d.length c4] w fun e w' => e = .returned (.bool true) ∧ Below w.heap.size w w' := by
  have HA0 := Lib.hid ha
  have HB0 := Lib.hid hb
  have HC0 := Lib.hid hc
  have HD0 := Lib.hid hd
  clear ha hb hc hd
  have H1 := Lib.hid hx1
  clear hx1
  go_enter Try.func10, Try.ntmps10
  go_wp2_with fail
  refine (head_any _).mono ?_
  rintro e w1 ⟨rfl, hb1⟩
  have hz1 := hb1.size
  (try simp at hz1)
  have bb1 : Below w.heap.size w w1 := (by repeat (first | exact Below.refl _ _ | assumption | refine below_drewN ?_ _ | refine Below.setCell ?_ (by first | (simp; done) | (simp; omega)) _ | refine Below.alloc ?_ (by first | (simp; done) | (simp; omega) | omega) _ | refine Below.drew ?_ | refine Below.trans ?_ (Below.mono (by assumption) (by first | (simp; done) | (simp; omega) | omega))))
  have be1 : Below w.heap.size w w1 := bb1
  have HA1 := Lib.hid (HA0.out.below bb1)
  have HB1 := Lib.hid (HB0.out.below bb1)
  have HC1 := Lib.hid (HC0.out.below bb1)
  have HD1 := Lib.hid (HD0.out.below bb1)
  have BE1 := Lib.hid be1
  clear be1 bb1 hb1 HA0 HB0 HC0 HD0
  go_wp2_with fail
  refine (covers_any p1 p1 c1 c1 a a _ (by omega) (HA1.out.below (by repeat (first | exact Below.refl _ _ | assumption | refine below_drewN ?_ _ | refine Below.setCell ?_ (by first | (simp; done) | (simp; omega)) _ | refine Below.alloc ?_ (by first | (simp; done) | (simp; omega) | omega) _ | refine Below.drew ?_ | refine Below.trans ?_ (Below.mono (by assumption) (by first | (simp; done) | (simp; omega) | omega))))) (HA1.out.below (by repeat (first | exact Below.refl _ _ | assumption | refine below_drewN ?_ _ | refine Below.setCell ?_ (by first | (simp; done) | (simp; omega)) _ | refine Below.alloc ?_ (by first | (simp; done) | (simp; omega) | omega) _ | refine Below.drew ?_ | refine Below.trans ?_ (Below.mono (by assumption) (by first | (simp; done) | (simp; omega) | omega)))))).mono ?_
  rintro e w2 ⟨rfl, hb2⟩
  rw [H1.out]
  have hz2 := hb2.size
  (try simp at hz2)
  have bb2 : Below w1.heap.size w1 w2 := (by repeat (first | exact Below.refl _ _ | assumption | refine below_drewN ?_ _ | refine Below.setCell ?_ (by first | (simp; done) | (simp; omega)) _ | refine Below.alloc ?_ (by first | (simp; done) | (simp; omega) | omega) _ | refine Below.drew ?_ | refine Below.trans ?_ (Below.mono (by assumption) (by first | (simp; done) | (simp; omega) | omega))))
  have be2 : Below w.heap.size w w2 := BE1.out.trans (bb2.mono BE1.out.size)
  have HA2 := Lib.hid (HA1.out.below bb2)
  have HB2 := Lib.hid (HB1.out.below bb2)
  have HC2 := Lib.hid (HC1.out.below bb2)
  have HD2 := Lib.hid (HD1.out.below bb2)
  have BE2 := Lib.hid be2
  clear be2 bb2 hb2 BE1 HA1 HB1 HC1 HD1
  go_wp2_with fail
  go_ret
  exact ⟨rfl, (by have q := BE2.out; repeat (first | exact q | refine Below.setCell ?_ (by first | (simp; done) | omega | (simp; omega)) _ | refine Below.alloc ?_ (by first | (simp; done) | omega | (simp; omega)) _ | refine below_drewN ?_ _ | refine Below.drew ?_))⟩
set_option maxRecDepth 100000 in
set_option maxHeartbeats 1600000 in
theorem cov_bb (p1 p2 p3 p4 : Option Addr) (c1 c2 c3 c4 : Nat) (a b c d : List Qn.R) (w : World) (ha : Rats w p1 a) (hb : Rats w p2 b) (hc : Rats w p3 c) (hd : Rats w p4 d) (h1 : a.length ≤ 60) (h2 : b.length ≤ 60) (h3 : c.length ≤ 60) (hx1 : covB a a = true) (hx2 : covB b b = false) :
    Calls Try.prog 10 #[.slice p1 a.length c1, .slice p2 b.length c2, .slice p3 c.length c3, .slice p4 d.length c4] w fun e w' => e = .returned (.bool true) ∧ Below w.heap.size w w' := by
  have HA0 := Lib.hid ha
  have HB0 := Lib.hid hb
  have HC0 := Lib.hid hc
  have HD0 := Lib.hid hd
  clear ha hb hc hd
  have H1 := Lib.hid hx1
  have H2 := Lib.hid hx2
  clear hx1 hx2
  go_enter Try.func10, Try.ntmps10
  go_wp2_with fail
  refine (head_any _).mono ?_
  rintro e w1 ⟨rfl, hb1⟩
  have hz1 := hb1.size
  (try simp at hz1)
  have bb1 : Below w.heap.size w w1 := (by repeat (first | exact Below.refl _ _ | assumption | refine below_drewN ?_ _ | refine Below.setCell ?_ (by first | (simp; done) | (simp; omega)) _ | refine Below.alloc ?_ (by first | (simp; done) | (simp; omega) | omega) _ | refine Below.drew ?_ | refine Below.trans ?_ (Below.mono (by assumption) (by first | (simp; done) | (simp; omega) | omega))))
  have be1 : Below w.heap.size w w1 := bb1
  have HA1 := Lib.hid (HA0.out.below bb1)
  have HB1 := Lib.hid (HB0.out.below bb1)
  have HC1 := Lib.hid (HC0.out.below bb1)
  have HD1 := Lib.hid (HD0.out.below bb1)
  have BE1 := Lib.hid be1
  clear be1 bb1 hb1 HA0 HB0 HC0 HD0
  go_wp2_with fail
  refine (covers_any p1 p1 c1 c1 a a _ (by omega) (HA1.out.below (by repeat (first | exact Below.refl _ _ | assumption | refine below_drewN ?_ _ | refine Below.setCell ?_ (by first | (simp; done) | (simp; omega)) _ | refine Below.alloc ?_ (by first | (simp; done) | (simp; omega) | omega) _ | refine Below.drew ?_ | refine Below.trans ?_ (Below.mono (by assumption) (by first | (simp; done) | (simp; omega) | omega))))) (HA1.out.below (by repeat (first | exact Below.refl _ _ | assumption | refine below_drewN ?_ _ | refine Below.setCell ?_ (by first | (simp; done) | (simp; omega)) _ | refine Below.alloc ?_ (by first | (simp; done) | (simp; omega) | omega) _ | refine Below.drew ?_ | refine Below.trans ?_ (Below.mono (by assumption) (by first | (simp; done) | (simp; omega) | omega)))))).mono ?_
  rintro e w2 ⟨rfl, hb2⟩
  rw [H1.out]
  have hz2 := hb2.size
  (try simp at hz2)
  have bb2 : Below w1.heap.size w1 w2 := (by repeat (first | exact Below.refl _ _ | assumption | refine below_drewN ?_ _ | refine Below.setCell ?_ (by first | (simp; done) | (simp; omega)) _ | refine Below.alloc ?_ (by first | (simp; done) | (simp; omega) | omega) _ | refine Below.drew ?_ | refine Below.trans ?_ (Below.mono (by assumption) (by first | (simp; done) | (simp; omega) | omega))))
  have be2 : Below w.heap.size w w2 := BE1.out.trans (bb2.mono BE1.out.size)
  have HA2 := Lib.hid (HA1.out.below bb2)
  have HB2 := Lib.hid (HB1.out.below bb2)
  have HC2 := Lib.hid (HC1.out.below bb2)
  have HD2 := Lib.hid (HD1.out.below bb2)
  have BE2 := Lib.hid be2
  clear be2 bb2 hb2 BE1 HA1 HB1 HC1 HD1
  go_wp2_with fail
  refine (covers_any p2 p2 c2 c2 b b _ (by omega) (HB2.out.below (by repeat (first | exact Below.refl _ _ | assumption | refine below_drewN ?_ _ | refine Below.setCell ?_ (by first | (simp; done) | (simp; omega)) _ | refine Below.alloc ?_ (by first | (simp; done) | (simp; omega) | omega) _ | refine Below.drew ?_ | refine Below.trans ?_ (Below.mono (by assumption) (by first | (simp; done) | (simp; omega) | omega))))) (HB2.out.below (by repeat (first | exact Below.refl _ _ | assumption | refine below_drewN ?_ _ | refine Below.setCell ?_ (by first | (simp; done) | (simp; omega)) _ | refine Below.alloc ?_ (by first | (simp; done) | (simp; omega) | omega) _ | refine Below.drew ?_ | refine Below.trans ?_ (Below.mono (by assumption) (by first | (simp; done) | (simp; omega) | omega)))))).mono ?_
  rintro e w3 ⟨rfl, hb3⟩
  rw [H2.out]
  have hz3 := hb3.size
  (try simp at hz3)
  have bb3 : Below w2.heap.size w2 w3 := (by repeat (first | exact Below.refl _ _ | assumption | refine below_drewN ?_ _ | refine Below.setCell ?_ (by first | (simp; done) | (simp; omega)) _ | refine Below.alloc ?_ (by first | (simp; done) | (simp; omega) | omega) _ | refine Below.drew ?_ | refine Below.trans ?_ (Below.mono (by assumption) (by first | (simp; done) | (simp; omega) | omega))))
  have be3 : Below w.heap.size w w3 := BE2.out.trans (bb3.mono BE2.out.size)
  have HA3 := Lib.hid (HA2.out.below bb3)
  have HB3 := Lib.hid (HB2.out.below bb3)
  have HC3 := Lib.hid (HC2.out.below bb3)
  have HD3 := Lib.hid (HD2.out.below bb3)
  have BE3 := Lib.hid be3
  clear be3 bb3 hb3 BE2 HA2 HB2 HC2 HD2
  go_wp2_with fail
  go_ret
  exact ⟨rfl, (by have q := BE3.out; repeat (first | exact q | refine Below.setCell ?_ (by first | (simp; done) | omega | (simp; omega)) _ | refine Below.alloc ?_ (by first | (simp; done) | omega | (simp; omega)) _ | refine below_drewN ?_ _ | refine Below.drew ?_))⟩
set_option maxRecDepth 100000 in
set_option maxHeartbeats 1600000 in
theorem cov_cc (p1 p2 p3 p4 : Option Addr) (c1 c2 c3 c4 : Nat) (a b c d : List Qn.R) (w : World) (ha : Rats w p1 a) (hb : Rats w p2 b) (hc : Rats w p3 c) (hd : Rats w p4 d) (h1 : a.length ≤ 60) (h2 : b.length ≤ 60) (h3 : c.length ≤ 60) (hx1 : covB a a = true) (hx2 : covB b b = true) (hx3 : covB c c = false) :
    Calls Try.prog 10 #[.slice p1 a.length c1, .slice p2 b.length c2, .slice p3 c.length c3, .slice p4 d.length c4] w fun e w' => e = .returned (.bool true) ∧ Below w.heap.size w w' := by
  have HA0 := Lib.hid ha
  have HB0 := Lib.hid hb
  have HC0 := Lib.hid hc
  have HD0 := Lib.hid hd
  clear ha hb hc hd
  have H1 := Lib.hid hx1
  have H2 := Lib.hid hx2
  have H3 := Lib.hid hx3
  clear hx1 hx2 hx3
  go_enter Try.func10, Try.ntmps10
  go_wp2_with fail
  refine (head_any _).mono ?_
  rintro e w1 ⟨rfl, hb1⟩
  have hz1 := hb1.size
  (try simp at hz1)
  have bb1 : Below w.heap.size w w1 := (by repeat (first | exact Below.refl _ _ | assumption | refine below_drewN ?_ _ | refine Below.setCell ?_ (by first | (simp; done) | (simp; omega)) _ | refine Below.alloc ?_ (by first | (simp; done) | (simp; omega) | omega) _ | refine Below.drew ?_ | refine Below.trans ?_ (Below.mono (by assumption) (by first | (simp; done) | (simp; omega) | omega))))
  have be1 : Below w.heap.size w w1 := bb1
  have HA1 := Lib.hid (HA0.out.below bb1)
  have HB1 := Lib.hid (HB0.out.below bb1)
  have HC1 := Lib.hid (HC0.out.below bb1)
  have HD1 := Lib.hid (HD0.out.below bb1)
  have BE1 := Lib.hid be1
  clear be1 bb1 hb1 HA0 HB0 HC0 HD0
  go_wp2_with fail
  refine (covers_any p1 p1 c1 c1 a a _ (by omega) (HA1.out.below (by repeat (first | exact Below.refl _ _ | assumption | refine below_drewN ?_ _ | refine Below.setCell ?_ (by first | (simp; done) | (simp; omega)) _ | refine Below.alloc ?_ (by first | (simp; done) | (simp; omega) | omega) _ | refine Below.drew ?_ | refine Below.trans ?_ (Below.mono (by assumption) (by first | (simp; done) | (simp; omega) | omega))))) (HA1.out.below (by repeat (first | exact Below.refl _ _ | assumption | refine below_drewN ?_ _ | refine Below.setCell ?_ (by first | (simp; done) | (simp; omega)) _ | refine Below.alloc ?_ (by first | (simp; done) | (simp; omega) | omega) _ | refine Below.drew ?_ | refine Below.trans ?_ (Below.mono (by assumption) (by first | (simp; done) | (simp; omega) | omega)))))).mono ?_
  rintro e w2 ⟨rfl, hb2⟩
  rw [H1.out]
  have hz2 := hb2.size
  (try simp at hz2)
  have bb2 : Below w1.heap.size w1 w2 := (by repeat (first | exact Below.refl _ _ | assumption | refine below_drewN ?_ _ | refine Below.setCell ?_ (by first | (simp; done) | (simp; omega)) _ | refine Below.alloc ?_ (by first | (simp; done) | (simp; omega) | omega) _ | refine Below.drew ?_ | refine Below.trans ?_ (Below.mono (by assumption) (by first | (simp; done) | (simp; omega) | omega))))
  have be2 : Below w.heap.size w w2 := BE1.out.trans (bb2.mono BE1.out.size)
  have HA2 := Lib.hid (HA1.out.below bb2)
  have HB2 := Lib.hid (HB1.out.below bb2)
  have HC2 := Lib.hid (HC1.out.below bb2)
  have HD2 := Lib.hid (HD1.out.below bb2)
  have BE2 := Lib.hid be2
  clear be2 bb2 hb2 BE1 HA1 HB1 HC1 HD1
  go_wp2_with fail
  refine (covers_any p2 p2 c2 c2 b b _ (by omega) (HB2.out.below (by repeat (first | exact Below.refl _ _ | assumption | refine below_drewN ?_ _ | refine Below.setCell ?_ (by first | (simp; done) | (simp; omega)) _ | refine Below.alloc ?_ (by first | (simp; done) | (simp; omega) | omega) _ | refine Below.drew ?_ | refine Below.trans ?_ (Below.mono (by assumption) (by first | (simp; done) | (simp; omega) | omega))))) (HB2.out.below (by repeat (first | exact Below.refl _ _ | assumption | refine below_drewN ?_ _ | refine Below.setCell ?_ (by first | (simp; done) | (simp; omega)) _ | refine Below.alloc ?_ (by first | (simp; done) | (simp; omega) | omega) _ | refine Below.drew ?_ | refine Below.trans ?_ (Below.mono (by assumption) (by first | (simp; done) | (simp; omega) | omega)))))).mono ?_
  rintro e w3 ⟨rfl, hb3⟩
  rw [H2.out]
  have hz3 := hb3.size
  (try simp at hz3)
  have bb3 : Below w2.heap.size w2 w3 := (by repeat (first | exact Below.refl _ _ | assumption | refine below_drewN ?_ _ | refine Below.setCell ?_ (by first | (simp; done) | (simp; omega)) _ | refine Below.alloc ?_ (by first | (simp; done) | (simp; omega) | omega) _ | refine Below.drew ?_ | refine Below.trans ?_ (Below.mono (by assumption) (by first | (simp; done) | (simp; omega) | omega))))
  have be3 : Below w.heap.size w w3 := BE2.out.trans (bb3.mono BE2.out.size)
  have HA3 := Lib.hid (HA2.out.below bb3)
  have HB3 := Lib.hid (HB2.out.below bb3)
  have HC3 := Lib.hid (HC2.out.below bb3)
  have HD3 := Lib.hid (HD2.out.below bb3)
  have BE3 := Lib.hid be3
  clear be3 bb3 hb3 BE2 HA2 HB2 HC2 HD2
  go_wp2_with fail
  refine (covers_any p3 p3 c3 c3 c c _ (by omega) (HC3.out.below (by repeat (first | exact Below.refl _ _ | assumption | refine below_drewN ?_ _ | refine Below.setCell ?_ (by first | (simp; done) | (simp; omega)) _ | refine Below.alloc ?_ (by first | (simp; done) | (simp; omega) | omega) _ | refine Below.drew ?_ | refine Below.trans ?_ (Below.mono (by assumption) (by first | (simp; done) | (simp; omega) | omega))))) (HC3.out.below (by repeat (first | exact Below.refl _ _ | assumption | refine below_drewN ?_ _ | refine Below.setCell ?_ (by first | (simp; done) | (simp; omega)) _ | refine Below.alloc ?_ (by first | (simp; done) | (simp; omega) | omega) _ | refine Below.drew ?_ | refine Below.trans ?_ (Below.mono (by assumption) (by first | (simp; done) | (simp; omega) | omega)))))).mono ?_
  rintro e w4 ⟨rfl, hb4⟩
  rw [H3.out]
  have hz4 := hb4.size
  (try simp at hz4)
  have bb4 : Below w3.heap.size w3 w4 := (by repeat (first | exact Below.refl _ _ | assumption | refine below_drewN ?_ _ | refine Below.setCell ?_ (by first | (simp; done) | (simp; omega)) _ | refine Below.alloc ?_ (by first | (simp; done) | (simp; omega) | omega) _ | refine Below.drew ?_ | refine Below.trans ?_ (Below.mono (by assumption) (by first | (simp; done) | (simp; omega) | omega))))
  have be4 : Below w.heap.size w w4 := BE3.out.trans (bb4.mono BE3.out.size)
  have HA4 := Lib.hid (HA3.out.below bb4)
  have HB4 := Lib.hid (HB3.out.below bb4)
  have HC4 := Lib.hid (HC3.out.below bb4)
  have HD4 := Lib.hid (HD3.out.below bb4)
  have BE4 := Lib.hid be4
  clear be4 bb4 hb4 BE3 HA3 HB3 HC3 HD3
  go_wp2_with fail
  go_ret
  exact ⟨rfl, (by have q := BE4.out; repeat (first | exact q | refine Below.setCell ?_ (by first | (simp; done) | omega | (simp; omega)) _ | refine Below.alloc ?_ (by first | (simp; done) | omega | (simp; omega)) _ | refine below_drewN ?_ _ | refine Below.drew ?_))⟩
end Go.Proofs.Ytfddfjokpaepfaa

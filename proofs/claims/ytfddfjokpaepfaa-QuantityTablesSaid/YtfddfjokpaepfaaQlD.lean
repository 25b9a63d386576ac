/- QuantityCovers: the walk of the law behind its first test. -/
import Derived.Test.YtfddfjokpaepfaaQlC
import Derived.Deep.DeepCutAuto
namespace Go.Proofs.Ytfddfjokpaepfaa
open Go.RowKit

/-- the first k sums -/
def PlusK (a d : List Qn.R) (k : Nat) (xs : List Qn.R) : Prop := xs.length = k ∧ ∀ i, i < k → Qn.RO (a.getD i (0, 1)) ∧ Qn.RO (d.getD i (0, 1)) ∧ Rt.addS (a.getD i (0, 1)).1 (a.getD i (0, 1)).2 (d.getD i (0, 1)).1 (d.getD i (0, 1)).2 = ((xs.getD i (0, 1)).1, (xs.getD i (0, 1)).2, 0)
theorem PlusK.nil (a d : List Qn.R) : PlusK a d 0 [] := ⟨rfl, fun i h => by omega⟩
theorem add_both {a b : Qn.R} {p q : Int} (h : Rt.addS a.1 a.2 b.1 b.2 = (p, q, 0)) : Qn.RO a ∧ Qn.RO b := by
  by_cases k : Rt.Ok a.1 a.2 ∧ Rt.Ok b.1 b.2
  · exact k
  · unfold Rt.addS at h
    rw [if_neg k] at h
    simp at h
theorem PlusK.snoc {a d xs : List Qn.R} {k : Nat} {x z : Qn.R} {p q : Int} (h : PlusK a d k xs) (ha : a[k]? = some x) (hd : d[k]? = some z) (hs : Rt.addS x.1 x.2 z.1 z.2 = (p, q, 0)) : PlusK a d (k + 1) (xs ++ [(p, q)]) := by
  obtain ⟨h1, h2⟩ := h
  refine ⟨by simp [h1], fun i hi => ?_⟩
  rcases Nat.lt_or_ge i k with hk | hk
  · have e : (xs ++ [(p, q)]).getD i (0, 1) = xs.getD i (0, 1) := by simp [List.getD_eq_getElem?_getD, List.getElem?_append_left (show i < xs.length by omega)]
    rw [e]
    exact h2 i hk
  · obtain rfl : i = k := by omega
    have e : (xs ++ [(p, q)]).getD i (0, 1) = (p, q) := by simp [List.getD_eq_getElem?_getD, h1]
    have e1 : a.getD i (0, 1) = x := by rw [List.getD_eq_getElem?_getD, ha]; rfl
    have e2 : d.getD i (0, 1) = z := by rw [List.getD_eq_getElem?_getD, hd]; rfl
    rw [e, e1, e2]
    exact ⟨(add_both hs).1, (add_both hs).2, hs⟩
theorem PlusK.plus {a d xs : List Qn.R} {n : Nat} (hn : n = a.length) (h : PlusK a d n xs) : Qn.Plus a d xs ∧ ∀ r ∈ xs, B64 r.1 := by
  subst hn
  have h1 : Qn.Plus a d xs := ⟨h.1, fun i hi => (h.2 i hi).2⟩
  have ha : ∀ r ∈ a, Qn.RO r := by
    intro r hr
    obtain ⟨i, hi, rfl⟩ := List.getElem_of_mem hr
    rw [← Qn.getD_get hi]
    exact (h.2 i hi).1
  exact ⟨h1, fun r hr => ok64 ((Qn.plus_val ha h1).1 r hr)⟩
theorem bool_iff {a b : Bool} (h : a = true ↔ b = true) : a = b := by cases a <;> cases b <;> simp_all
theorem hold_alloc {W w' : World} {o : Obj} (h : Below W.heap.size W w' ∧ ∀ b o, b < W.heap.size → w'.cell? ⟨b, o, none⟩ = W.cell? ⟨b, o, none⟩) : Below W.heap.size W (w'.alloc o) ∧ ∀ b p, b < W.heap.size → (w'.alloc o).cell? ⟨b, p, none⟩ = W.cell? ⟨b, p, none⟩ := holdS (h.1.alloc h.1.size _)
theorem hold_set {W w' : World} {p : Addr} {v : Value} (h : Below W.heap.size W w' ∧ ∀ b o, b < W.heap.size → w'.cell? ⟨b, o, none⟩ = W.cell? ⟨b, o, none⟩) (hp : W.heap.size ≤ p.block) : Below W.heap.size W (w'.setCell p v) ∧ ∀ b q, b < W.heap.size → (w'.setCell p v).cell? ⟨b, q, none⟩ = W.cell? ⟨b, q, none⟩ := holdS (h.1.setCell hp _)
theorem apart_left {x x' y : Value} {n : Nat} (h : Apart x y) (ha : x'.ownBlock = x.ownBlock ∨ x'.ownBlock = some n) (hy : ∀ r, y.ownBlock = some r → r < n) : Apart x' y := by
  unfold Apart at *
  rcases ha with ha | ha
  · rw [ha]; exact h
  · rw [ha]
    refine .inr fun k => ?_
    have := hy n k.symm
    omega
theorem apart_right {x y y' : Value} {n : Nat} (h : Apart x y) (ha : y'.ownBlock = y.ownBlock ∨ y'.ownBlock = some n) (hx : ∀ r, x.ownBlock = some r → r < n) : Apart x y' := by
  unfold Apart at *
  rcases ha with ha | ha
  · rw [ha]; exact h
  · rw [ha]
    refine .inr fun k => ?_
    have := hx n k
    omega
theorem own_snoc {w : World} {base n : Nat} {v : Value} {l : List Qn.R} {p q : Int} (hn : n = l.length) (h : w.ownsRow base 31 2 v (n + 1) (cellsR l ++ [.int .i64 p, .int .i64 q])) : OwnR w base v (l ++ [(p, q)]) := by
  subst hn
  unfold OwnR
  rw [cellsR_app, List.length_append]
  exact h
theorem heap_cell {w w' : World} {b : Nat} (h : w'.heap[b]? = w.heap[b]?) (o : Nat) : w'.cell? ⟨b, o, none⟩ = w.cell? ⟨b, o, none⟩ := by simp [World.cell?, h]
set_option maxRecDepth 100000 in
set_option maxHeartbeats 1600000 in
theorem cov_go (p1 p2 p3 p4 : Option Addr) (c1 c2 c3 c4 : Nat) (a b c d : List Qn.R) (o : Bool) (w : World) (ha : Rats w p1 a) (hb : Rats w p2 b) (hc : Rats w p3 c) (hd : Rats w p4 d) (h1 : a.length ≤ 60) (h2 : b.length ≤ 60) (h3 : c.length ≤ 60) (hx1 : covB a a = true) (hx2 : covB b b = true) (hx3 : covB c c = true) (ho : covB a b = o) :
    Calls Try.prog 10 #[.slice p1 a.length c1, .slice p2 b.length c2, .slice p3 c.length c3, .slice p4 d.length c4] w fun e w' => e = .returned (.bool true) ∧ Below w.heap.size w w' := by
  have HAW := Lib.hid ha
  have HBB := Lib.hid hb
  have HDW := Lib.hid hd
  have HA0 := Lib.hid ha
  have HB0 := Lib.hid hb
  have HC0 := Lib.hid hc
  have HD0 := Lib.hid hd
  clear ha hb hc hd
  have H1 := Lib.hid hx1
  have H2 := Lib.hid hx2
  have H3 := Lib.hid hx3
  have HLEN := Lib.hid (fun (h : o = true) => ((covB_iff a b).1 (ho.trans h)).1)
  have HTR := Lib.hid (fun (h : o = true) (k : covB b c = true) => (covB_iff a c).2 (Qn.cov_trans ((covB_iff a b).1 (ho.trans h)) ((covB_iff b c).1 k)))
  have HSAME := Lib.hid (fun (h : o = true) (k : covB b a = true) => (sameB_iff a b).2 (Qn.cov_antisymm ((covB_iff a b).1 (ho.trans h)) ((covB_iff b a).1 k)))
  have HRA := Lib.hid (Qn.cov_refl.1 ((covB_iff a a).1 hx1))
  have HRB := Lib.hid (Qn.cov_refl.1 ((covB_iff b b).1 hx2))
  have HO := Lib.hid ho
  clear ho
  clear hx1 hx2 hx3
  go_enter Try.func10, Try.ntmps10
  go_wp2_with fail
  refine (head_any _).mono ?_
  rintro e w1 ⟨rfl, hb1⟩
  have hz1 := hb1.size
  (try simp at hz1)
  have bb1 : Below w.heap.size w w1 := (by repeat (first | exact Below.refl _ _ | assumption | refine below_drewN ?_ _ | refine Below.setCell ?_ (by first | (simp; done) | (simp; omega)) _ | refine Below.alloc ?_ (by first | (simp; done) | (simp; omega) | omega) _ | refine Below.drew ?_ | refine Below.trans ?_ (Below.mono (by assumption) (by first | (simp; done) | (simp; omega) | omega))))
  have be1 : Below w.heap.size w w1 := bb1
  have HA1 := Lib.hid (HA0.out.below bb1)
  have HB1 := Lib.hid (HB0.out.below bb1)
  have HC1 := Lib.hid (HC0.out.below bb1)
  have HD1 := Lib.hid (HD0.out.below bb1)
  have BE1 := Lib.hid be1
  clear be1 bb1 hb1 HA0 HB0 HC0 HD0
  go_wp2_with fail
  refine (covers_any p1 p1 c1 c1 a a _ (by omega) (HA1.out.below (by repeat (first | exact Below.refl _ _ | assumption | refine below_drewN ?_ _ | refine Below.setCell ?_ (by first | (simp; done) | (simp; omega)) _ | refine Below.alloc ?_ (by first | (simp; done) | (simp; omega) | omega) _ | refine Below.drew ?_ | refine Below.trans ?_ (Below.mono (by assumption) (by first | (simp; done) | (simp; omega) | omega))))) (HA1.out.below (by repeat (first | exact Below.refl _ _ | assumption | refine below_drewN ?_ _ | refine Below.setCell ?_ (by first | (simp; done) | (simp; omega)) _ | refine Below.alloc ?_ (by first | (simp; done) | (simp; omega) | omega) _ | refine Below.drew ?_ | refine Below.trans ?_ (Below.mono (by assumption) (by first | (simp; done) | (simp; omega) | omega)))))).mono ?_
  rintro e w2 ⟨rfl, hb2⟩
  rw [H1.out]
  have hz2 := hb2.size
  (try simp at hz2)
  have bb2 : Below w1.heap.size w1 w2 := (by repeat (first | exact Below.refl _ _ | assumption | refine below_drewN ?_ _ | refine Below.setCell ?_ (by first | (simp; done) | (simp; omega)) _ | refine Below.alloc ?_ (by first | (simp; done) | (simp; omega) | omega) _ | refine Below.drew ?_ | refine Below.trans ?_ (Below.mono (by assumption) (by first | (simp; done) | (simp; omega) | omega))))
  have be2 : Below w.heap.size w w2 := BE1.out.trans (bb2.mono BE1.out.size)
  have HA2 := Lib.hid (HA1.out.below bb2)
  have HB2 := Lib.hid (HB1.out.below bb2)
  have HC2 := Lib.hid (HC1.out.below bb2)
  have HD2 := Lib.hid (HD1.out.below bb2)
  have BE2 := Lib.hid be2
  clear be2 bb2 hb2 BE1 HA1 HB1 HC1 HD1
  go_wp2_with fail
  refine (covers_any p2 p2 c2 c2 b b _ (by omega) (HB2.out.below (by repeat (first | exact Below.refl _ _ | assumption | refine below_drewN ?_ _ | refine Below.setCell ?_ (by first | (simp; done) | (simp; omega)) _ | refine Below.alloc ?_ (by first | (simp; done) | (simp; omega) | omega) _ | refine Below.drew ?_ | refine Below.trans ?_ (Below.mono (by assumption) (by first | (simp; done) | (simp; omega) | omega))))) (HB2.out.below (by repeat (first | exact Below.refl _ _ | assumption | refine below_drewN ?_ _ | refine Below.setCell ?_ (by first | (simp; done) | (simp; omega)) _ | refine Below.alloc ?_ (by first | (simp; done) | (simp; omega) | omega) _ | refine Below.drew ?_ | refine Below.trans ?_ (Below.mono (by assumption) (by first | (simp; done) | (simp; omega) | omega)))))).mono ?_
  rintro e w3 ⟨rfl, hb3⟩
  rw [H2.out]
  have hz3 := hb3.size
  (try simp at hz3)
  have bb3 : Below w2.heap.size w2 w3 := (by repeat (first | exact Below.refl _ _ | assumption | refine below_drewN ?_ _ | refine Below.setCell ?_ (by first | (simp; done) | (simp; omega)) _ | refine Below.alloc ?_ (by first | (simp; done) | (simp; omega) | omega) _ | refine Below.drew ?_ | refine Below.trans ?_ (Below.mono (by assumption) (by first | (simp; done) | (simp; omega) | omega))))
  have be3 : Below w.heap.size w w3 := BE2.out.trans (bb3.mono BE2.out.size)
  have HA3 := Lib.hid (HA2.out.below bb3)
  have HB3 := Lib.hid (HB2.out.below bb3)
  have HC3 := Lib.hid (HC2.out.below bb3)
  have HD3 := Lib.hid (HD2.out.below bb3)
  have BE3 := Lib.hid be3
  clear be3 bb3 hb3 BE2 HA2 HB2 HC2 HD2
  go_wp2_with fail
  refine (covers_any p3 p3 c3 c3 c c _ (by omega) (HC3.out.below (by repeat (first | exact Below.refl _ _ | assumption | refine below_drewN ?_ _ | refine Below.setCell ?_ (by first | (simp; done) | (simp; omega)) _ | refine Below.alloc ?_ (by first | (simp; done) | (simp; omega) | omega) _ | refine Below.drew ?_ | refine Below.trans ?_ (Below.mono (by assumption) (by first | (simp; done) | (simp; omega) | omega))))) (HC3.out.below (by repeat (first | exact Below.refl _ _ | assumption | refine below_drewN ?_ _ | refine Below.setCell ?_ (by first | (simp; done) | (simp; omega)) _ | refine Below.alloc ?_ (by first | (simp; done) | (simp; omega) | omega) _ | refine Below.drew ?_ | refine Below.trans ?_ (Below.mono (by assumption) (by first | (simp; done) | (simp; omega) | omega)))))).mono ?_
  rintro e w4 ⟨rfl, hb4⟩
  rw [H3.out]
  have hz4 := hb4.size
  (try simp at hz4)
  have bb4 : Below w3.heap.size w3 w4 := (by repeat (first | exact Below.refl _ _ | assumption | refine below_drewN ?_ _ | refine Below.setCell ?_ (by first | (simp; done) | (simp; omega)) _ | refine Below.alloc ?_ (by first | (simp; done) | (simp; omega) | omega) _ | refine Below.drew ?_ | refine Below.trans ?_ (Below.mono (by assumption) (by first | (simp; done) | (simp; omega) | omega))))
  have be4 : Below w.heap.size w w4 := BE3.out.trans (bb4.mono BE3.out.size)
  have HA4 := Lib.hid (HA3.out.below bb4)
  have HB4 := Lib.hid (HB3.out.below bb4)
  have HC4 := Lib.hid (HC3.out.below bb4)
  have HD4 := Lib.hid (HD3.out.below bb4)
  have BE4 := Lib.hid be4
  clear be4 bb4 hb4 BE3 HA3 HB3 HC3 HD3
  go_wp2_with fail
  refine (covers_any p1 p2 c1 c2 a b _ (by omega) (HA4.out.below (by repeat (first | exact Below.refl _ _ | assumption | refine below_drewN ?_ _ | refine Below.setCell ?_ (by first | (simp; done) | (simp; omega)) _ | refine Below.alloc ?_ (by first | (simp; done) | (simp; omega) | omega) _ | refine Below.drew ?_ | refine Below.trans ?_ (Below.mono (by assumption) (by first | (simp; done) | (simp; omega) | omega))))) (HB4.out.below (by repeat (first | exact Below.refl _ _ | assumption | refine below_drewN ?_ _ | refine Below.setCell ?_ (by first | (simp; done) | (simp; omega)) _ | refine Below.alloc ?_ (by first | (simp; done) | (simp; omega) | omega) _ | refine Below.drew ?_ | refine Below.trans ?_ (Below.mono (by assumption) (by first | (simp; done) | (simp; omega) | omega)))))).mono ?_
  rintro e w5 ⟨rfl, hb5⟩
  rw [HO.out]
  have hz5 := hb5.size
  (try simp at hz5)
  have bb5 : Below w4.heap.size w4 w5 := (by repeat (first | exact Below.refl _ _ | assumption | refine below_drewN ?_ _ | refine Below.setCell ?_ (by first | (simp; done) | (simp; omega)) _ | refine Below.alloc ?_ (by first | (simp; done) | (simp; omega) | omega) _ | refine Below.drew ?_ | refine Below.trans ?_ (Below.mono (by assumption) (by first | (simp; done) | (simp; omega) | omega))))
  have be5 : Below w.heap.size w w5 := BE4.out.trans (bb5.mono BE4.out.size)
  have HA5 := Lib.hid (HA4.out.below bb5)
  have HB5 := Lib.hid (HB4.out.below bb5)
  have HC5 := Lib.hid (HC4.out.below bb5)
  have HD5 := Lib.hid (HD4.out.below bb5)
  have BE5 := Lib.hid be5
  clear be5 bb5 hb5 BE4 HA4 HB4 HC4 HD4
  go_upto_region 5 with fail
  go_cut [89] (fun s wx => s = .bool false ∧ Below w.heap.size w wx)
  case first =>
    cases o
    · by_cases hl : a.length = b.length
      · have hlb : ((a.length : Int) != (b.length : Int)) = false := by rw [hl]; simp
        clear hl
        go_wp2_with fail
        go_meet
        exact ⟨rfl, BE5.out⟩
      · have hlb : ((a.length : Int) != (b.length : Int)) = true := bne_iff_ne.2 (by omega)
        clear hl
        go_wp2_with fail
        go_meet
        exact ⟨rfl, BE5.out⟩
    · have hlb : ((a.length : Int) != (b.length : Int)) = false := by rw [HLEN.out rfl]; simp
      cases hba : covB b a
      · have HBA := Lib.hid hba
        clear hba
        cases hbc : covB b c
        · have HBC := Lib.hid hbc
          clear hbc
          go_wp2_with fail
          refine (covers_any p2 p3 c2 c3 b c _ (by omega) (HB5.out.below (by repeat (first | exact Below.refl _ _ | assumption | refine below_drewN ?_ _ | refine Below.setCell ?_ (by first | (simp; done) | (simp; omega)) _ | refine Below.alloc ?_ (by first | (simp; done) | (simp; omega) | omega) _ | refine Below.drew ?_ | refine Below.trans ?_ (Below.mono (by assumption) (by first | (simp; done) | (simp; omega) | omega))))) (HC5.out.below (by repeat (first | exact Below.refl _ _ | assumption | refine below_drewN ?_ _ | refine Below.setCell ?_ (by first | (simp; done) | (simp; omega)) _ | refine Below.alloc ?_ (by first | (simp; done) | (simp; omega) | omega) _ | refine Below.drew ?_ | refine Below.trans ?_ (Below.mono (by assumption) (by first | (simp; done) | (simp; omega) | omega)))))).mono ?_
          rintro e w6 ⟨rfl, hb6⟩
          rw [HBC.out]
          have hz6 := hb6.size
          (try simp at hz6)
          have bb6 : Below w5.heap.size w5 w6 := (by repeat (first | exact Below.refl _ _ | assumption | refine below_drewN ?_ _ | refine Below.setCell ?_ (by first | (simp; done) | (simp; omega)) _ | refine Below.alloc ?_ (by first | (simp; done) | (simp; omega) | omega) _ | refine Below.drew ?_ | refine Below.trans ?_ (Below.mono (by assumption) (by first | (simp; done) | (simp; omega) | omega))))
          have be6 : Below w.heap.size w w6 := BE5.out.trans (bb6.mono BE5.out.size)
          have HA6 := Lib.hid (HA5.out.below bb6)
          have HB6 := Lib.hid (HB5.out.below bb6)
          have HC6 := Lib.hid (HC5.out.below bb6)
          have HD6 := Lib.hid (HD5.out.below bb6)
          have BE6 := Lib.hid be6
          clear be6 bb6 hb6 BE5 HA5 HB5 HC5 HD5
          go_wp2_with fail
          refine (covers_any p2 p1 c2 c1 b a _ (by omega) (HB6.out.below (by repeat (first | exact Below.refl _ _ | assumption | refine below_drewN ?_ _ | refine Below.setCell ?_ (by first | (simp; done) | (simp; omega)) _ | refine Below.alloc ?_ (by first | (simp; done) | (simp; omega) | omega) _ | refine Below.drew ?_ | refine Below.trans ?_ (Below.mono (by assumption) (by first | (simp; done) | (simp; omega) | omega))))) (HA6.out.below (by repeat (first | exact Below.refl _ _ | assumption | refine below_drewN ?_ _ | refine Below.setCell ?_ (by first | (simp; done) | (simp; omega)) _ | refine Below.alloc ?_ (by first | (simp; done) | (simp; omega) | omega) _ | refine Below.drew ?_ | refine Below.trans ?_ (Below.mono (by assumption) (by first | (simp; done) | (simp; omega) | omega)))))).mono ?_
          rintro e w7 ⟨rfl, hb7⟩
          rw [HBA.out]
          have hz7 := hb7.size
          (try simp at hz7)
          have bb7 : Below w6.heap.size w6 w7 := (by repeat (first | exact Below.refl _ _ | assumption | refine below_drewN ?_ _ | refine Below.setCell ?_ (by first | (simp; done) | (simp; omega)) _ | refine Below.alloc ?_ (by first | (simp; done) | (simp; omega) | omega) _ | refine Below.drew ?_ | refine Below.trans ?_ (Below.mono (by assumption) (by first | (simp; done) | (simp; omega) | omega))))
          have be7 : Below w.heap.size w w7 := BE6.out.trans (bb7.mono BE6.out.size)
          have HA7 := Lib.hid (HA6.out.below bb7)
          have HB7 := Lib.hid (HB6.out.below bb7)
          have HC7 := Lib.hid (HC6.out.below bb7)
          have HD7 := Lib.hid (HD6.out.below bb7)
          have BE7 := Lib.hid be7
          clear be7 bb7 hb7 BE6 HA6 HB6 HC6 HD6
          go_wp2_with fail
          go_meet
          exact ⟨rfl, BE7.out⟩
        · have HBC := Lib.hid hbc
          clear hbc
          go_wp2_with fail
          refine (covers_any p2 p3 c2 c3 b c _ (by omega) (HB5.out.below (by repeat (first | exact Below.refl _ _ | assumption | refine below_drewN ?_ _ | refine Below.setCell ?_ (by first | (simp; done) | (simp; omega)) _ | refine Below.alloc ?_ (by first | (simp; done) | (simp; omega) | omega) _ | refine Below.drew ?_ | refine Below.trans ?_ (Below.mono (by assumption) (by first | (simp; done) | (simp; omega) | omega))))) (HC5.out.below (by repeat (first | exact Below.refl _ _ | assumption | refine below_drewN ?_ _ | refine Below.setCell ?_ (by first | (simp; done) | (simp; omega)) _ | refine Below.alloc ?_ (by first | (simp; done) | (simp; omega) | omega) _ | refine Below.drew ?_ | refine Below.trans ?_ (Below.mono (by assumption) (by first | (simp; done) | (simp; omega) | omega)))))).mono ?_
          rintro e w6 ⟨rfl, hb6⟩
          rw [HBC.out]
          have hz6 := hb6.size
          (try simp at hz6)
          have bb6 : Below w5.heap.size w5 w6 := (by repeat (first | exact Below.refl _ _ | assumption | refine below_drewN ?_ _ | refine Below.setCell ?_ (by first | (simp; done) | (simp; omega)) _ | refine Below.alloc ?_ (by first | (simp; done) | (simp; omega) | omega) _ | refine Below.drew ?_ | refine Below.trans ?_ (Below.mono (by assumption) (by first | (simp; done) | (simp; omega) | omega))))
          have be6 : Below w.heap.size w w6 := BE5.out.trans (bb6.mono BE5.out.size)
          have HA6 := Lib.hid (HA5.out.below bb6)
          have HB6 := Lib.hid (HB5.out.below bb6)
          have HC6 := Lib.hid (HC5.out.below bb6)
          have HD6 := Lib.hid (HD5.out.below bb6)
          have BE6 := Lib.hid be6
          clear be6 bb6 hb6 BE5 HA5 HB5 HC5 HD5
          go_wp2_with fail
          refine (covers_any p1 p3 c1 c3 a c _ (by omega) (HA6.out.below (by repeat (first | exact Below.refl _ _ | assumption | refine below_drewN ?_ _ | refine Below.setCell ?_ (by first | (simp; done) | (simp; omega)) _ | refine Below.alloc ?_ (by first | (simp; done) | (simp; omega) | omega) _ | refine Below.drew ?_ | refine Below.trans ?_ (Below.mono (by assumption) (by first | (simp; done) | (simp; omega) | omega))))) (HC6.out.below (by repeat (first | exact Below.refl _ _ | assumption | refine below_drewN ?_ _ | refine Below.setCell ?_ (by first | (simp; done) | (simp; omega)) _ | refine Below.alloc ?_ (by first | (simp; done) | (simp; omega) | omega) _ | refine Below.drew ?_ | refine Below.trans ?_ (Below.mono (by assumption) (by first | (simp; done) | (simp; omega) | omega)))))).mono ?_
          rintro e w7 ⟨rfl, hb7⟩
          rw [HTR.out (by first | rfl | trivial) HBC.out]
          have hz7 := hb7.size
          (try simp at hz7)
          have bb7 : Below w6.heap.size w6 w7 := (by repeat (first | exact Below.refl _ _ | assumption | refine below_drewN ?_ _ | refine Below.setCell ?_ (by first | (simp; done) | (simp; omega)) _ | refine Below.alloc ?_ (by first | (simp; done) | (simp; omega) | omega) _ | refine Below.drew ?_ | refine Below.trans ?_ (Below.mono (by assumption) (by first | (simp; done) | (simp; omega) | omega))))
          have be7 : Below w.heap.size w w7 := BE6.out.trans (bb7.mono BE6.out.size)
          have HA7 := Lib.hid (HA6.out.below bb7)
          have HB7 := Lib.hid (HB6.out.below bb7)
          have HC7 := Lib.hid (HC6.out.below bb7)
          have HD7 := Lib.hid (HD6.out.below bb7)
          have BE7 := Lib.hid be7
          clear be7 bb7 hb7 BE6 HA6 HB6 HC6 HD6
          go_wp2_with fail
          refine (covers_any p2 p1 c2 c1 b a _ (by omega) (HB7.out.below (by repeat (first | exact Below.refl _ _ | assumption | refine below_drewN ?_ _ | refine Below.setCell ?_ (by first | (simp; done) | (simp; omega)) _ | refine Below.alloc ?_ (by first | (simp; done) | (simp; omega) | omega) _ | refine Below.drew ?_ | refine Below.trans ?_ (Below.mono (by assumption) (by first | (simp; done) | (simp; omega) | omega))))) (HA7.out.below (by repeat (first | exact Below.refl _ _ | assumption | refine below_drewN ?_ _ | refine Below.setCell ?_ (by first | (simp; done) | (simp; omega)) _ | refine Below.alloc ?_ (by first | (simp; done) | (simp; omega) | omega) _ | refine Below.drew ?_ | refine Below.trans ?_ (Below.mono (by assumption) (by first | (simp; done) | (simp; omega) | omega)))))).mono ?_
          rintro e w8 ⟨rfl, hb8⟩
          rw [HBA.out]
          have hz8 := hb8.size
          (try simp at hz8)
          have bb8 : Below w7.heap.size w7 w8 := (by repeat (first | exact Below.refl _ _ | assumption | refine below_drewN ?_ _ | refine Below.setCell ?_ (by first | (simp; done) | (simp; omega)) _ | refine Below.alloc ?_ (by first | (simp; done) | (simp; omega) | omega) _ | refine Below.drew ?_ | refine Below.trans ?_ (Below.mono (by assumption) (by first | (simp; done) | (simp; omega) | omega))))
          have be8 : Below w.heap.size w w8 := BE7.out.trans (bb8.mono BE7.out.size)
          have HA8 := Lib.hid (HA7.out.below bb8)
          have HB8 := Lib.hid (HB7.out.below bb8)
          have HC8 := Lib.hid (HC7.out.below bb8)
          have HD8 := Lib.hid (HD7.out.below bb8)
          have BE8 := Lib.hid be8
          clear be8 bb8 hb8 BE7 HA7 HB7 HC7 HD7
          go_wp2_with fail
          go_meet
          exact ⟨rfl, BE8.out⟩
      · have HBA := Lib.hid hba
        clear hba
        cases hbc : covB b c
        · have HBC := Lib.hid hbc
          clear hbc
          go_wp2_with fail
          refine (covers_any p2 p3 c2 c3 b c _ (by omega) (HB5.out.below (by repeat (first | exact Below.refl _ _ | assumption | refine below_drewN ?_ _ | refine Below.setCell ?_ (by first | (simp; done) | (simp; omega)) _ | refine Below.alloc ?_ (by first | (simp; done) | (simp; omega) | omega) _ | refine Below.drew ?_ | refine Below.trans ?_ (Below.mono (by assumption) (by first | (simp; done) | (simp; omega) | omega))))) (HC5.out.below (by repeat (first | exact Below.refl _ _ | assumption | refine below_drewN ?_ _ | refine Below.setCell ?_ (by first | (simp; done) | (simp; omega)) _ | refine Below.alloc ?_ (by first | (simp; done) | (simp; omega) | omega) _ | refine Below.drew ?_ | refine Below.trans ?_ (Below.mono (by assumption) (by first | (simp; done) | (simp; omega) | omega)))))).mono ?_
          rintro e w6 ⟨rfl, hb6⟩
          rw [HBC.out]
          have hz6 := hb6.size
          (try simp at hz6)
          have bb6 : Below w5.heap.size w5 w6 := (by repeat (first | exact Below.refl _ _ | assumption | refine below_drewN ?_ _ | refine Below.setCell ?_ (by first | (simp; done) | (simp; omega)) _ | refine Below.alloc ?_ (by first | (simp; done) | (simp; omega) | omega) _ | refine Below.drew ?_ | refine Below.trans ?_ (Below.mono (by assumption) (by first | (simp; done) | (simp; omega) | omega))))
          have be6 : Below w.heap.size w w6 := BE5.out.trans (bb6.mono BE5.out.size)
          have HA6 := Lib.hid (HA5.out.below bb6)
          have HB6 := Lib.hid (HB5.out.below bb6)
          have HC6 := Lib.hid (HC5.out.below bb6)
          have HD6 := Lib.hid (HD5.out.below bb6)
          have BE6 := Lib.hid be6
          clear be6 bb6 hb6 BE5 HA5 HB5 HC5 HD5
          go_wp2_with fail
          refine (covers_any p2 p1 c2 c1 b a _ (by omega) (HB6.out.below (by repeat (first | exact Below.refl _ _ | assumption | refine below_drewN ?_ _ | refine Below.setCell ?_ (by first | (simp; done) | (simp; omega)) _ | refine Below.alloc ?_ (by first | (simp; done) | (simp; omega) | omega) _ | refine Below.drew ?_ | refine Below.trans ?_ (Below.mono (by assumption) (by first | (simp; done) | (simp; omega) | omega))))) (HA6.out.below (by repeat (first | exact Below.refl _ _ | assumption | refine below_drewN ?_ _ | refine Below.setCell ?_ (by first | (simp; done) | (simp; omega)) _ | refine Below.alloc ?_ (by first | (simp; done) | (simp; omega) | omega) _ | refine Below.drew ?_ | refine Below.trans ?_ (Below.mono (by assumption) (by first | (simp; done) | (simp; omega) | omega)))))).mono ?_
          rintro e w7 ⟨rfl, hb7⟩
          rw [HBA.out]
          have hz7 := hb7.size
          (try simp at hz7)
          have bb7 : Below w6.heap.size w6 w7 := (by repeat (first | exact Below.refl _ _ | assumption | refine below_drewN ?_ _ | refine Below.setCell ?_ (by first | (simp; done) | (simp; omega)) _ | refine Below.alloc ?_ (by first | (simp; done) | (simp; omega) | omega) _ | refine Below.drew ?_ | refine Below.trans ?_ (Below.mono (by assumption) (by first | (simp; done) | (simp; omega) | omega))))
          have be7 : Below w.heap.size w w7 := BE6.out.trans (bb7.mono BE6.out.size)
          have HA7 := Lib.hid (HA6.out.below bb7)
          have HB7 := Lib.hid (HB6.out.below bb7)
          have HC7 := Lib.hid (HC6.out.below bb7)
          have HD7 := Lib.hid (HD6.out.below bb7)
          have BE7 := Lib.hid be7
          clear be7 bb7 hb7 BE6 HA6 HB6 HC6 HD6
          go_wp2_with fail
          refine (same_any p1 p2 c1 c2 a b _ (by omega) (HA7.out.below (by repeat (first | exact Below.refl _ _ | assumption | refine below_drewN ?_ _ | refine Below.setCell ?_ (by first | (simp; done) | (simp; omega)) _ | refine Below.alloc ?_ (by first | (simp; done) | (simp; omega) | omega) _ | refine Below.drew ?_ | refine Below.trans ?_ (Below.mono (by assumption) (by first | (simp; done) | (simp; omega) | omega))))) (HB7.out.below (by repeat (first | exact Below.refl _ _ | assumption | refine below_drewN ?_ _ | refine Below.setCell ?_ (by first | (simp; done) | (simp; omega)) _ | refine Below.alloc ?_ (by first | (simp; done) | (simp; omega) | omega) _ | refine Below.drew ?_ | refine Below.trans ?_ (Below.mono (by assumption) (by first | (simp; done) | (simp; omega) | omega)))))).mono ?_
          rintro e w8 ⟨rfl, hb8⟩
          rw [HSAME.out (by first | rfl | trivial) HBA.out]
          have hz8 := hb8.size
          (try simp at hz8)
          have bb8 : Below w7.heap.size w7 w8 := (by repeat (first | exact Below.refl _ _ | assumption | refine below_drewN ?_ _ | refine Below.setCell ?_ (by first | (simp; done) | (simp; omega)) _ | refine Below.alloc ?_ (by first | (simp; done) | (simp; omega) | omega) _ | refine Below.drew ?_ | refine Below.trans ?_ (Below.mono (by assumption) (by first | (simp; done) | (simp; omega) | omega))))
          have be8 : Below w.heap.size w w8 := BE7.out.trans (bb8.mono BE7.out.size)
          have HA8 := Lib.hid (HA7.out.below bb8)
          have HB8 := Lib.hid (HB7.out.below bb8)
          have HC8 := Lib.hid (HC7.out.below bb8)
          have HD8 := Lib.hid (HD7.out.below bb8)
          have BE8 := Lib.hid be8
          clear be8 bb8 hb8 BE7 HA7 HB7 HC7 HD7
          go_wp2_with fail
          go_meet
          exact ⟨rfl, BE8.out⟩
        · have HBC := Lib.hid hbc
          clear hbc
          go_wp2_with fail
          refine (covers_any p2 p3 c2 c3 b c _ (by omega) (HB5.out.below (by repeat (first | exact Below.refl _ _ | assumption | refine below_drewN ?_ _ | refine Below.setCell ?_ (by first | (simp; done) | (simp; omega)) _ | refine Below.alloc ?_ (by first | (simp; done) | (simp; omega) | omega) _ | refine Below.drew ?_ | refine Below.trans ?_ (Below.mono (by assumption) (by first | (simp; done) | (simp; omega) | omega))))) (HC5.out.below (by repeat (first | exact Below.refl _ _ | assumption | refine below_drewN ?_ _ | refine Below.setCell ?_ (by first | (simp; done) | (simp; omega)) _ | refine Below.alloc ?_ (by first | (simp; done) | (simp; omega) | omega) _ | refine Below.drew ?_ | refine Below.trans ?_ (Below.mono (by assumption) (by first | (simp; done) | (simp; omega) | omega)))))).mono ?_
          rintro e w6 ⟨rfl, hb6⟩
          rw [HBC.out]
          have hz6 := hb6.size
          (try simp at hz6)
          have bb6 : Below w5.heap.size w5 w6 := (by repeat (first | exact Below.refl _ _ | assumption | refine below_drewN ?_ _ | refine Below.setCell ?_ (by first | (simp; done) | (simp; omega)) _ | refine Below.alloc ?_ (by first | (simp; done) | (simp; omega) | omega) _ | refine Below.drew ?_ | refine Below.trans ?_ (Below.mono (by assumption) (by first | (simp; done) | (simp; omega) | omega))))
          have be6 : Below w.heap.size w w6 := BE5.out.trans (bb6.mono BE5.out.size)
          have HA6 := Lib.hid (HA5.out.below bb6)
          have HB6 := Lib.hid (HB5.out.below bb6)
          have HC6 := Lib.hid (HC5.out.below bb6)
          have HD6 := Lib.hid (HD5.out.below bb6)
          have BE6 := Lib.hid be6
          clear be6 bb6 hb6 BE5 HA5 HB5 HC5 HD5
          go_wp2_with fail
          refine (covers_any p1 p3 c1 c3 a c _ (by omega) (HA6.out.below (by repeat (first | exact Below.refl _ _ | assumption | refine below_drewN ?_ _ | refine Below.setCell ?_ (by first | (simp; done) | (simp; omega)) _ | refine Below.alloc ?_ (by first | (simp; done) | (simp; omega) | omega) _ | refine Below.drew ?_ | refine Below.trans ?_ (Below.mono (by assumption) (by first | (simp; done) | (simp; omega) | omega))))) (HC6.out.below (by repeat (first | exact Below.refl _ _ | assumption | refine below_drewN ?_ _ | refine Below.setCell ?_ (by first | (simp; done) | (simp; omega)) _ | refine Below.alloc ?_ (by first | (simp; done) | (simp; omega) | omega) _ | refine Below.drew ?_ | refine Below.trans ?_ (Below.mono (by assumption) (by first | (simp; done) | (simp; omega) | omega)))))).mono ?_
          rintro e w7 ⟨rfl, hb7⟩
          rw [HTR.out (by first | rfl | trivial) HBC.out]
          have hz7 := hb7.size
          (try simp at hz7)
          have bb7 : Below w6.heap.size w6 w7 := (by repeat (first | exact Below.refl _ _ | assumption | refine below_drewN ?_ _ | refine Below.setCell ?_ (by first | (simp; done) | (simp; omega)) _ | refine Below.alloc ?_ (by first | (simp; done) | (simp; omega) | omega) _ | refine Below.drew ?_ | refine Below.trans ?_ (Below.mono (by assumption) (by first | (simp; done) | (simp; omega) | omega))))
          have be7 : Below w.heap.size w w7 := BE6.out.trans (bb7.mono BE6.out.size)
          have HA7 := Lib.hid (HA6.out.below bb7)
          have HB7 := Lib.hid (HB6.out.below bb7)
          have HC7 := Lib.hid (HC6.out.below bb7)
          have HD7 := Lib.hid (HD6.out.below bb7)
          have BE7 := Lib.hid be7
          clear be7 bb7 hb7 BE6 HA6 HB6 HC6 HD6
          go_wp2_with fail
          refine (covers_any p2 p1 c2 c1 b a _ (by omega) (HB7.out.below (by repeat (first | exact Below.refl _ _ | assumption | refine below_drewN ?_ _ | refine Below.setCell ?_ (by first | (simp; done) | (simp; omega)) _ | refine Below.alloc ?_ (by first | (simp; done) | (simp; omega) | omega) _ | refine Below.drew ?_ | refine Below.trans ?_ (Below.mono (by assumption) (by first | (simp; done) | (simp; omega) | omega))))) (HA7.out.below (by repeat (first | exact Below.refl _ _ | assumption | refine below_drewN ?_ _ | refine Below.setCell ?_ (by first | (simp; done) | (simp; omega)) _ | refine Below.alloc ?_ (by first | (simp; done) | (simp; omega) | omega) _ | refine Below.drew ?_ | refine Below.trans ?_ (Below.mono (by assumption) (by first | (simp; done) | (simp; omega) | omega)))))).mono ?_
          rintro e w8 ⟨rfl, hb8⟩
          rw [HBA.out]
          have hz8 := hb8.size
          (try simp at hz8)
          have bb8 : Below w7.heap.size w7 w8 := (by repeat (first | exact Below.refl _ _ | assumption | refine below_drewN ?_ _ | refine Below.setCell ?_ (by first | (simp; done) | (simp; omega)) _ | refine Below.alloc ?_ (by first | (simp; done) | (simp; omega) | omega) _ | refine Below.drew ?_ | refine Below.trans ?_ (Below.mono (by assumption) (by first | (simp; done) | (simp; omega) | omega))))
          have be8 : Below w.heap.size w w8 := BE7.out.trans (bb8.mono BE7.out.size)
          have HA8 := Lib.hid (HA7.out.below bb8)
          have HB8 := Lib.hid (HB7.out.below bb8)
          have HC8 := Lib.hid (HC7.out.below bb8)
          have HD8 := Lib.hid (HD7.out.below bb8)
          have BE8 := Lib.hid be8
          clear be8 bb8 hb8 BE7 HA7 HB7 HC7 HD7
          go_wp2_with fail
          refine (same_any p1 p2 c1 c2 a b _ (by omega) (HA8.out.below (by repeat (first | exact Below.refl _ _ | assumption | refine below_drewN ?_ _ | refine Below.setCell ?_ (by first | (simp; done) | (simp; omega)) _ | refine Below.alloc ?_ (by first | (simp; done) | (simp; omega) | omega) _ | refine Below.drew ?_ | refine Below.trans ?_ (Below.mono (by assumption) (by first | (simp; done) | (simp; omega) | omega))))) (HB8.out.below (by repeat (first | exact Below.refl _ _ | assumption | refine below_drewN ?_ _ | refine Below.setCell ?_ (by first | (simp; done) | (simp; omega)) _ | refine Below.alloc ?_ (by first | (simp; done) | (simp; omega) | omega) _ | refine Below.drew ?_ | refine Below.trans ?_ (Below.mono (by assumption) (by first | (simp; done) | (simp; omega) | omega)))))).mono ?_
          rintro e w9 ⟨rfl, hb9⟩
          rw [HSAME.out (by first | rfl | trivial) HBA.out]
          have hz9 := hb9.size
          (try simp at hz9)
          have bb9 : Below w8.heap.size w8 w9 := (by repeat (first | exact Below.refl _ _ | assumption | refine below_drewN ?_ _ | refine Below.setCell ?_ (by first | (simp; done) | (simp; omega)) _ | refine Below.alloc ?_ (by first | (simp; done) | (simp; omega) | omega) _ | refine Below.drew ?_ | refine Below.trans ?_ (Below.mono (by assumption) (by first | (simp; done) | (simp; omega) | omega))))
          have be9 : Below w.heap.size w w9 := BE8.out.trans (bb9.mono BE8.out.size)
          have HA9 := Lib.hid (HA8.out.below bb9)
          have HB9 := Lib.hid (HB8.out.below bb9)
          have HC9 := Lib.hid (HC8.out.below bb9)
          have HD9 := Lib.hid (HD8.out.below bb9)
          have BE9 := Lib.hid be9
          clear be9 bb9 hb9 BE8 HA8 HB8 HC8 HD8
          go_wp2_with fail
          go_meet
          exact ⟨rfl, BE9.out⟩
  case rest =>
    obtain ⟨rfl, hbx⟩ := hcut
    have HBX := Lib.hid hbx
    clear hbx
    by_cases hl : a.length = b.length
    rotate_left
    · have hlb : ((a.length : Int) != (b.length : Int)) = true := bne_iff_ne.2 (by omega)
      clear hl
      go_wp2_with fail
      go_ret
      exact ⟨rfl, HBX.out⟩
    have hlb : ((a.length : Int) != (b.length : Int)) = false := by rw [hl]; simp
    by_cases hld : d.length = a.length
    rotate_left
    · have hlc : ((d.length : Int) != (a.length : Int)) = true := bne_iff_ne.2 (by omega)
      clear hl hld
      go_wp2_with fail
      go_ret
      exact ⟨rfl, HBX.out⟩
    have hlc : ((d.length : Int) != (a.length : Int)) = false := by rw [hld]; simp
    have HL := Lib.hid hl
    have HLD := Lib.hid hld
    clear hl hld
    go_wp2_with fail
    go_loopw [11, 12, 13] (fun vx vy i wr => ∃ (k : Nat) (xs ys : List Qn.R) (x y : Value), vx = x ∧ vy = y ∧ i = .int .i64 k ∧ k ≤ a.length ∧ PlusK a d k xs ∧ PlusK b d k ys ∧ OwnR wr w.heap.size x xs ∧ OwnR wr w.heap.size y ys ∧ Apart x y ∧ Apart y x ∧ Below w.heap.size w wr) (fun _ _ i _ => a.length - (intOf i).toNat)
    case atStart => exact ⟨0, [], [], _, _, rfl, rfl, rfl, Nat.zero_le _, PlusK.nil _ _, PlusK.nil _ _, World.ownsRow_nil _ _ _ _, World.ownsRow_nil _ _ _ _, .inl rfl, .inl rfl, HBX.out⟩
    case round =>
      obtain ⟨k, xs, ys, _, _, rfl, rfl, rfl, hk, hpx, hpy, hox, hoy, hxy, hyx, hbw⟩ := hrel
      have HPX := Lib.hid hpx
      have HPY := Lib.hid hpy
      have HOX := Lib.hid hox
      have HOY := Lib.hid hoy
      have HXY := Lib.hid hxy
      have HYX := Lib.hid hyx
      have HBW := Lib.hid hbw
      clear hpx hpy hox hoy hxy hyx hbw
      by_cases hlt : k < a.length
      · have hlt2 : k < b.length := by have := HL.out; omega
        have hlt3 : k < d.length := by have := HLD.out; omega
        have hu : a[k]? = some a[k] := List.getElem?_eq_getElem hlt
        have hv : b[k]? = some b[k] := List.getElem?_eq_getElem hlt2
        have hz : d[k]? = some d[k] := List.getElem?_eq_getElem hlt3
        generalize a[k] = x0 at hu
        generalize b[k] = y0 at hv
        generalize d[k] = z0 at hz
        obtain ⟨ba, offa, rfl, hca, h64a, hbla⟩ := (HAW.out.below HBW.out).at hu
        obtain ⟨bb, offb, rfl, hcb, h64b, hblb⟩ := (HBB.out.below HBW.out).at hv
        obtain ⟨bd, offd, rfl, hcd, h64d, hbld⟩ := (HDW.out.below HBW.out).at hz
        obtain ⟨a0, a1⟩ := hca
        obtain ⟨b0, b1⟩ := hcb
        obtain ⟨d0, d1⟩ := hcd
        have HU := Lib.hid hu
        have HV := Lib.hid hv
        have HZ := Lib.hid hz
        have hi0 : (0 : Int) ≤ (k : Int) := by omega
        have hi1 : (k : Int) < (a.length : Int) := by omega
        have hi2 : (k : Int) < (b.length : Int) := by omega
        have hi3 : (k : Int) < (d.length : Int) := by omega
        obtain ⟨s1, s2, e, hs⟩ : ∃ s1 s2 e, Rt.addS x0.1 x0.2 z0.1 z0.2 = (s1, s2, e) := ⟨_, _, _, rfl⟩
        obtain ⟨t1, t2, f, ht⟩ : ∃ t1 t2 f, Rt.addS y0.1 y0.2 z0.1 z0.2 = (t1, t2, f) := ⟨_, _, _, rfl⟩
        have HSUM := Lib.hid hs
        have HSUM2 := Lib.hid ht
        clear hu hv hz hs ht
        go_upto_region 13 with fail
        go_cut [14, 15] (fun s14 s15 wx => ∃ g : Nat, s14 = .pointer (some ⟨g, 0, none⟩) ∧ s15 = .int .i64 e ∧ wr.heap.size ≤ g ∧ wx.cell? ⟨g, 0, none⟩ = some (.int .i64 s1) ∧ wx.cell? ⟨g, 1, none⟩ = some (.int .i64 s2) ∧ Below wr.heap.size wr wx)
        case first =>
          go_region_held3 (fun w' => Below wr.heap.size wr w' ∧ ∀ b o, b < wr.heap.size → w'.cell? ⟨b, o, none⟩ = wr.cell? ⟨b, o, none⟩) (first | assumption | exact holdT (by assumption) (by assumption) | exact hold_alloc (by assumption) | exact hold_set (hold_set (by assumption) (by simp; omega)) (by simp; omega) | exact holdS (by repeat (first | exact Below.refl _ _ | assumption | refine below_drewN ?_ _ | refine Below.setCell ?_ (by first | (simp; done) | (simp; omega)) _ | refine Below.alloc ?_ (by first | (simp; done) | (simp; omega) | omega) _ | refine Below.drew ?_ | refine Below.trans ?_ (Below.mono (by assumption) (by first | (simp; done) | (simp; omega) | omega)))))
            (first | (go_at_call 25; refine (add_any x0.1 x0.2 z0.1 z0.2 _ h64a.1 h64a.2 h64d.1 h64d.2).mono ?_; rintro e w' ⟨rfl, hb'⟩; rw [HSUM.out]; simp only [RV]; have hzz := hb'.size; (try simp at hzz); have y0 := hb'.cell (p := ⟨wr.heap.size, 0, none⟩); have y1 := hb'.cell (p := ⟨wr.heap.size, 1, none⟩); have y2 := hb'.frozen (p := ⟨wr.heap.size, 0, none⟩); have y3 := hb'.frozen (p := ⟨wr.heap.size, 1, none⟩)))
          all_goals
            go_wp2_with fail
            go_meet
            exact ⟨_, rfl, rfl, (by first | (simp; done) | (simp; omega) | omega), by go_simp, by go_simp, (by repeat (first | exact Below.refl _ _ | assumption | refine below_drewN ?_ _ | refine Below.setCell ?_ (by first | (simp; done) | (simp; omega)) _ | refine Below.alloc ?_ (by first | (simp; done) | (simp; omega) | omega) _ | refine Below.drew ?_ | refine Below.trans ?_ (Below.mono (by assumption) (by first | (simp; done) | (simp; omega) | omega))))⟩
        case rest =>
          obtain ⟨g1, rfl, rfl, hge1, e0, e1, hb1⟩ := hcut
          obtain ⟨wq, rfl⟩ : ∃ W, W = wc := ⟨_, rfl⟩
          have q0 := cell_keep hb1 b0
          have q1 := cell_keep hb1 b1
          have r0 := cell_keep hb1 d0
          have r1 := cell_keep hb1 d1
          have hzq := hb1.size
          have hbbq : bb < wq.heap.size := by omega
          have hbdq : bd < wq.heap.size := by omega
          have hg1 : g1 < wq.heap.size := World.block_lt_of_cell? wq _ e0
          have HB1 := Lib.hid hb1
          clear hb1 a0 a1 b0 b1 d0 d1
          go_upto_region 14 with fail
          go_cut [16, 17] (fun s16 s17 wx => ∃ g : Nat, s16 = .pointer (some ⟨g, 0, none⟩) ∧ s17 = .int .i64 f ∧ wq.heap.size ≤ g ∧ wx.cell? ⟨g, 0, none⟩ = some (.int .i64 t1) ∧ wx.cell? ⟨g, 1, none⟩ = some (.int .i64 t2) ∧ Below wq.heap.size wq wx)
          case first =>
            go_region_held3 (fun w' => Below wq.heap.size wq w' ∧ ∀ b o, b < wq.heap.size → w'.cell? ⟨b, o, none⟩ = wq.cell? ⟨b, o, none⟩) (first | assumption | exact holdT (by assumption) (by assumption) | exact hold_alloc (by assumption) | exact hold_set (hold_set (by assumption) (by simp; omega)) (by simp; omega) | exact holdS (by repeat (first | exact Below.refl _ _ | assumption | refine below_drewN ?_ _ | refine Below.setCell ?_ (by first | (simp; done) | (simp; omega)) _ | refine Below.alloc ?_ (by first | (simp; done) | (simp; omega) | omega) _ | refine Below.drew ?_ | refine Below.trans ?_ (Below.mono (by assumption) (by first | (simp; done) | (simp; omega) | omega)))))
              (first | (go_at_call 25; refine (add_any y0.1 y0.2 z0.1 z0.2 _ h64b.1 h64b.2 h64d.1 h64d.2).mono ?_; rintro e w' ⟨rfl, hb'⟩; rw [HSUM2.out]; simp only [RV]; have hzz := hb'.size; (try simp at hzz); have y0 := hb'.cell (p := ⟨wq.heap.size, 0, none⟩); have y1 := hb'.cell (p := ⟨wq.heap.size, 1, none⟩); have y2 := hb'.frozen (p := ⟨wq.heap.size, 0, none⟩); have y3 := hb'.frozen (p := ⟨wq.heap.size, 1, none⟩)))
            all_goals
              go_wp2_with fail
              go_meet
              exact ⟨_, rfl, rfl, (by first | (simp; done) | (simp; omega) | omega), by go_simp, by go_simp, (by repeat (first | exact Below.refl _ _ | assumption | refine below_drewN ?_ _ | refine Below.setCell ?_ (by first | (simp; done) | (simp; omega)) _ | refine Below.alloc ?_ (by first | (simp; done) | (simp; omega) | omega) _ | refine Below.drew ?_ | refine Below.trans ?_ (Below.mono (by assumption) (by first | (simp; done) | (simp; omega) | omega))))⟩
          case rest =>
            obtain ⟨g2, rfl, rfl, hge2, f0, f1, hb2⟩ := hcut
            obtain ⟨wp, rfl⟩ : ∃ W, W = wc := ⟨_, rfl⟩
            have k0 := cell_keep hb2 e0
            have k1 := cell_keep hb2 e1
            have hg2 : g2 < wp.heap.size := World.block_lt_of_cell? wp _ f0
            have hzp := hb2.size
            have hg1p : g1 < wp.heap.size := by omega
            have HB2 := Lib.hid (HB1.out.trans (hb2.mono HB1.out.size))
            have HBP := Lib.hid (HBW.out.trans (HB2.out.mono HBW.out.size))
            clear hb2 e0 e1 q0 q1 r0 r1
            by_cases he : e = 0
            rotate_left
            · have heb : (e != 0) = true := bne_iff_ne.2 he
              clear he
              go_wp2_with fail
              go_ret
              exact ⟨rfl, HBP.out⟩
            subst he
            by_cases hf : f = 0
            rotate_left
            · have hfb : (f != 0) = true := bne_iff_ne.2 hf
              clear hf
              go_wp2_with fail
              go_ret
              exact ⟨rfl, HBP.out⟩
            subst hf
            have HNX := Lib.hid (HPX.out.snoc HU.out HZ.out HSUM.out)
            have HNY := Lib.hid (HPY.out.snoc HV.out HZ.out HSUM2.out)
            have hxl := HPX.out.1
            have hyl := HPY.out.1
            have HOX2 := Lib.hid (show wp.ownsRow w.heap.size 31 2 _ xs.length (cellsR xs) from HOX.out.below HB2.out)
            have HOY2 := Lib.hid (show wp.ownsRow w.heap.size 31 2 _ ys.length (cellsR ys) from HOY.out.below HB2.out)
            obtain ⟨i0, hi, hz0, hz1, hz2⟩ := info_parts info_ratio
            have HI := Lib.hid hi
            have HY0 := Lib.hid hz0
            have HY1 := Lib.hid hz1
            have HY2 := Lib.hid hz2
            clear hi hz0 hz1 hz2
            go_wp2_with (at_builtin; refine wpList_append_own_at _ rfl (.tmp 140) (.tmp 142) 24 rfl w.heap.size 31 i0 (.agg #[.int .i64 0, .int .i64 0]) 2 16 Try.underlying24 HI.out HY0.out HY1.out HY2.out rfl (by decide) _ _ _ rfl (HOX2.out.alloc _) ⟨wp.heap.size, 0, none⟩ 1 1 [.int .i64 s1, .int .i64 s2] rfl rfl (cell_two_new _ _ _ _) (by simp [Value.oneCell']) (by simp [maxLen]; omega) (by omega) (by have := HBP.out.size; simp; omega) ?_)
            intro x' w6 hox' hgx _ hatx
            have hox6 := own_snoc (by omega) hox'
            have hbx6 : Below w.heap.size w w6 := (HBP.out.alloc HBP.out.size _).grown hgx (by have := HBP.out.size; simp; omega) (fun r hr => (HOX2.out.lt r hr).1)
            have hoy6 : OwnR w6 w.heap.size u12 ys := World.ownsRow.kept (HOY2.out.alloc _) hgx HYX.out
            have hg2x : some g2 ≠ u11.ownBlock := fun h => by
              have := (HOX.out.lt g2 h.symm).2
              omega
            have hh6 := hgx.block g2 (by simp; omega) hg2x
            have k0' : w6.cell? ⟨g2, 0, none⟩ = some (.int .i64 t1) := (heap_cell hh6 0).trans (by go_simp)
            have k1' : w6.cell? ⟨g2, 1, none⟩ = some (.int .i64 t2) := (heap_cell hh6 1).trans (by go_simp)
            have hz6 : wp.heap.size + 1 ≤ w6.heap.size := by
              have q := hgx.size
              simpa using q
            have hg26 : g2 < w6.heap.size := by omega
            have hxy6 : Apart x' u12 := apart_left HXY.out hatx (fun r hr => by have q := (HOY2.out.lt r hr).2; simp; omega)
            have hyx6 : Apart u12 x' := apart_right HYX.out hatx (fun r hr => by have q := (HOY2.out.lt r hr).2; simp; omega)
            have HOX6 := Lib.hid hox6
            have HOY6 := Lib.hid (show w6.ownsRow w.heap.size 31 2 u12 ys.length (cellsR ys) from hoy6)
            have HB6 := Lib.hid hbx6
            have HXY6 := Lib.hid hxy6
            have HYX6 := Lib.hid hyx6
            clear hox' hgx hatx hox6 hbx6 hoy6 hg2x hh6 hxy6 hyx6 k0 k1 f0 f1 HOX2 HOY2
            go_wp2_with (at_builtin; refine wpList_append_own_at _ rfl (.tmp 144) (.tmp 146) 24 rfl w.heap.size 31 i0 (.agg #[.int .i64 0, .int .i64 0]) 2 16 Try.underlying24 HI.out HY0.out HY1.out HY2.out rfl (by decide) _ _ _ rfl (HOY6.out.alloc _) ⟨w6.heap.size, 0, none⟩ 1 1 [.int .i64 t1, .int .i64 t2] rfl rfl (cell_two_new _ _ _ _) (by simp [Value.oneCell']) (by simp [maxLen]; omega) (by omega) (by have := HB6.out.size; simp; omega) ?_)
            intro y' w7 hoy' hgy _ haty
            have hoy7 := own_snoc (by omega) hoy'
            have hb7 : Below w.heap.size w w7 := (HB6.out.alloc HB6.out.size _).grown hgy (by have := HB6.out.size; simp; omega) (fun r hr => (HOY6.out.lt r hr).1)
            have hox7 : OwnR w7 w.heap.size x' (xs ++ [(s1, s2)]) := World.ownsRow.kept (World.ownsRow.alloc HOX6.out _) hgy HXY6.out
            have hxy7 : Apart x' y' := apart_right HXY6.out haty (fun r hr => by have q := (World.ownsRow.lt HOX6.out r hr).2; simp; omega)
            have hyx7 : Apart y' x' := apart_left HYX6.out haty (fun r hr => by have q := (World.ownsRow.lt HOX6.out r hr).2; simp; omega)
            have HOX7 := Lib.hid hox7
            have HOY7 := Lib.hid hoy7
            have HB7 := Lib.hid hb7
            have HXY7 := Lib.hid hxy7
            have HYX7 := Lib.hid hyx7
            clear hoy' hgy haty hoy7 hb7 hox7 hxy7 hyx7 k0' k1'
            go_wp2_with fail
            go_roundw
            case rel => exact ⟨k + 1, _, _, _, _, rfl, rfl, by simp, hlt, HNX.out, HNY.out, HOX7.out, HOY7.out, HXY7.out, HYX7.out, HB7.out⟩
            case measure =>
              simp only [intOf]
              exact meas_lt hlt
      · obtain rfl : k = a.length := by omega
        obtain ⟨hpx, h64x⟩ := HPX.out.plus rfl
        obtain ⟨hpy, h64y⟩ := HPY.out.plus HL.out
        obtain ⟨q1, cap1, hq1, hr1⟩ := HOX.out.rats h64x
        obtain ⟨q2, cap2, hq2, hr2⟩ := HOY.out.rats h64y
        have hfin : covB xs ys = o := by
          rw [← HO.out]
          exact bool_iff (by rw [covB_iff, covB_iff]; exact Qn.cov_plus HRA.out HRB.out HL.out hpx hpy)
        have HF := Lib.hid hfin
        have HR1 := Lib.hid hr1
        have HR2 := Lib.hid hr2
        have HXL := Lib.hid (show xs.length ≤ 1000 by have := HPX.out.1; omega)
        clear hpx hpy h64x h64y hr1 hr2 hfin HOX HOY HPX HPY HXY HYX
        subst hq1 hq2
        go_wp2_with fail
        refine (covers_any q1 q2 cap1 cap2 xs ys _ HXL.out HR1.out HR2.out).mono ?_
        rintro e w8 ⟨rfl, hb8⟩
        rw [HF.out]
        go_wp2_with fail
        go_ret
        exact ⟨by simp, HBW.out.trans (hb8.mono HBW.out.size)⟩
end Go.Proofs.Ytfddfjokpaepfaa

/- Amounts in a row of the law's own; both lists in one. -/
import Derived.Test.YtfddfjokpaepfaaQlL
import Derived.Maps.AppendAt
import Derived.Laws.OwnMore
import Derived.Laws.AppendOwnNone
import Derived.Deep.DeepCutAuto
namespace Go.Proofs.Ytfddfjokpaepfaa
open Go.RowKit

def cellsA : List Qn.Am → List Value
  | [] => []
  | a :: l => .int .i64 a.1 :: .int .i64 a.2.1 :: .int .i64 a.2.2 :: cellsA l
theorem cellsA_app : ∀ (a b : List Qn.Am), cellsA (a ++ b) = cellsA a ++ cellsA b
  | [], _ => rfl
  | x :: a, b => by rw [List.cons_append, cellsA, cellsA, cellsA_app a b]; rfl
theorem cellsA_len : ∀ (a : List Qn.Am), (cellsA a).length = a.length * 3
  | [] => rfl
  | x :: a => by rw [cellsA, List.length_cons, List.length_cons, List.length_cons, List.length_cons, cellsA_len a]; omega
theorem cellsA_one : ∀ (a : List Qn.Am), ∀ v ∈ cellsA a, v.oneCell' = true
  | [], v, h => by cases h
  | x :: a, v, h => by
    simp only [cellsA, List.mem_cons] at h
    rcases h with rfl | rfl | rfl | h
    · rfl
    · rfl
    · rfl
    · exact cellsA_one a v h
theorem cellsA_get : ∀ (l : List Qn.Am) (i : Nat) a, l[i]? = some a → (cellsA l)[i * 3]? = some (.int .i64 a.1) ∧ (cellsA l)[i * 3 + 1]? = some (.int .i64 a.2.1) ∧ (cellsA l)[i * 3 + 2]? = some (.int .i64 a.2.2)
  | [], i, a, h => by simp at h
  | x :: l, 0, a, h => by
    obtain rfl : x = a := by simpa using h
    exact ⟨rfl, rfl, rfl⟩
  | x :: l, i + 1, a, h => by
    have ih := cellsA_get l i a (by simpa using h)
    rw [cellsA, show (i + 1) * 3 + 2 = i * 3 + 2 + 1 + 1 + 1 by omega, show (i + 1) * 3 + 1 = i * 3 + 1 + 1 + 1 + 1 by omega, show (i + 1) * 3 = i * 3 + 1 + 1 + 1 by omega]
    simp only [List.getElem?_cons_succ]
    exact ih
/-- the cells of amounts that lie in memory -/
theorem Amts.cells {w : World} {b off : Nat} : ∀ (l : List Qn.Am) (k : Nat), (∀ (j : Nat) a, l[j]? = some a → ACell w b (off + (k + j) * 3) a) → ∀ j u, (cellsA l)[j]? = some u → w.cell? ⟨b, off + k * 3 + j, none⟩ = some u
  | [], k, _, j, u, h => by simp [cellsA] at h
  | x :: l, k, hc, j, u, h => by
    obtain ⟨c0, c1, c2⟩ := hc 0 x rfl
    match j, h with
    | 0, h => simp [cellsA] at h; rw [← h]; exact c0
    | 1, h => simp [cellsA] at h; rw [← h]; exact c1
    | 2, h => simp [cellsA] at h; rw [← h]; exact c2
    | j + 3, h =>
      have ih := Amts.cells l (k + 1) (fun i a ha => by
        have := hc (i + 1) a (by simpa using ha)
        rwa [show k + (i + 1) = k + 1 + i by omega] at this) j u (by simpa [cellsA] using h)
      rwa [show off + (k + 1) * 3 + j = off + k * 3 + (j + 3) by omega] at ih
theorem Amts.news {w : World} {x : Addr} {l : List Qn.Am} (h : Amts w (some x) l) : ∀ j u, (cellsA l)[j]? = some u → w.cell? (x.add j) = some u := by
  intro j u hu
  rcases h.2 with rfl | ⟨b, off, hp, hc⟩
  · simp [cellsA] at hu
  · cases hp
    rw [Go.WideShapes.add_plain]
    have := Amts.cells (w := w) (b := b) (off := off) l 0 (fun i a ha => by rw [Nat.zero_add]; exact hc i a ha) j u hu
    rwa [Nat.zero_mul, Nat.add_zero] at this
theorem Amts.none_nil {w : World} {l : List Qn.Am} (h : Amts w none l) : l = [] := by
  rcases h.2 with h | ⟨b, off, hp, _⟩
  · exact h
  · cases hp
/-- amounts in a row of the law's own -/
def OwnA (w : World) (base : Nat) (v : Value) (l : List Qn.Am) : Prop := w.ownsRow base 33 3 v l.length (cellsA l)
theorem OwnA.below {w w' : World} {base : Nat} {v : Value} {l : List Qn.Am} (h : OwnA w base v l) (hb : Below w.heap.size w w') : OwnA w' base v l := by
  obtain ⟨h1, h2⟩ := h
  refine ⟨h1, h2.imp id ?_⟩
  rintro ⟨g, cap, cur, hv, hbg, hg, h3⟩
  exact ⟨g, cap, cur, hv, hbg, (hb.block g (Array.getElem?_eq_some_iff.1 hg).1).trans hg, h3⟩
theorem OwnA.amts {w : World} {base : Nat} {v : Value} {l : List Qn.Am} (h : OwnA w base v l) (h64 : ∀ a ∈ l, B64 a.2.1) : ∃ q cap, v = .slice q l.length cap ∧ Amts w q l ∧ ∀ x, q = some x → base ≤ x.block := by
  rcases h.2 with ⟨hv, h0⟩ | ⟨g, cap, cur, hv, hbg, hg, _, _, _, ht⟩
  · obtain rfl := List.length_eq_zero_iff.1 h0
    exact ⟨none, 0, hv, ⟨(fun x hx => by cases hx), .inl rfl⟩, fun x hx => by cases hx⟩
  · refine ⟨_, cap, hv, ⟨h64, .inr ⟨g, 0, rfl, fun j r hr => ?_⟩⟩, fun x hx => by cases hx; exact hbg⟩
    obtain ⟨h1, h2, h3⟩ := cellsA_get l j r hr
    have key : ∀ (i : Nat) (u : Value), (cellsA l)[i]? = some u → w.cell? ⟨g, i, none⟩ = some u := fun i u hu => by
      rw [← ht, List.getElem?_take] at hu
      split at hu
      · simp [World.cell?, hg]
        simpa using hu
      · cases hu
    rw [Nat.zero_add]
    exact ⟨key _ _ h1, key _ _ h2, key _ _ h3⟩
theorem ownA_app {w : World} {base n k : Nat} {v : Value} {l m : List Qn.Am} (hn : n = l.length) (hk : k = m.length) (h : w.ownsRow base 33 3 v (n + k) (cellsA l ++ cellsA m)) : OwnA w base v (l ++ m) := by
  subst hn hk
  unfold OwnA
  rw [cellsA_app, List.length_append]
  exact h
theorem info_amount : (Try.prog.info? 33).map (fun i => (i.zero, i.size, i.bytes)) = some (some (.agg #[.int .i64 0, .int .i64 0, .int .i64 0]), 3, 24) := by kernel_rfl
theorem cell_three_new (w : World) (x y z : Value) (t : TypeId) : ∀ j u, [x, y, z][j]? = some u → (w.alloc (.cells #[x, y, z] t)).cell? ((⟨w.heap.size, 0, none⟩ : Addr).add j) = some u := by
  intro j u hj
  have e := World.alloc_heap_new w (.cells #[x, y, z] t)
  rw [Go.WideShapes.add_plain, Nat.zero_add]
  match j, hj with
  | 0, hj =>
    simp only [List.getElem?_cons_zero, Option.some.injEq] at hj
    subst hj
    simp only [World.cell?, e]
    rfl
  | 1, hj =>
    simp only [List.getElem?_cons_succ, List.getElem?_cons_zero, Option.some.injEq] at hj
    subst hj
    simp only [World.cell?, e]
    rfl
  | 2, hj =>
    simp only [List.getElem?_cons_succ, List.getElem?_cons_zero, Option.some.injEq] at hj
    subst hj
    simp only [World.cell?, e]
    rfl
set_option maxRecDepth 100000 in
set_option maxHeartbeats 1600000 in
theorem sums_big (p : Option Addr) (cap : Nat) (us : List Qn.Un) (q r : Option Addr) (capl capm : Nat) (l m : List Qn.Am) (tt : Int) (w : World) (ht : Tab w p us) (hl : Amts w q l) (hm : Amts w r m) (hs : smallB us l.length = false) :
    Calls Try.prog 8 #[.slice p us.length cap, .slice q l.length capl, .slice r m.length capm, .int .i64 tt] w fun e w' => e = .returned (.bool true) ∧ Below w.heap.size w w' := by
  have HT0 := Lib.hid ht
  clear ht
  have HL0 := Lib.hid hl
  have HM0 := Lib.hid hm
  clear hl hm
  have HS := Lib.hid hs
  clear hs
  go_enter Try.func8, Try.ntmps8
  go_wp2_with fail
  refine (head_any _).mono ?_
  rintro e w1 ⟨rfl, hb1⟩
  have hz1 := hb1.size
  (try simp at hz1)
  have bb1 : Below w.heap.size w w1 := (by repeat (first | exact Below.refl _ _ | assumption | refine below_drewN ?_ _ | refine Below.setCell ?_ (by first | (simp; done) | (simp; omega)) _ | refine Below.alloc ?_ (by first | (simp; done) | (simp; omega) | omega) _ | refine Below.drew ?_ | refine Below.trans ?_ (Below.mono (by assumption) (by first | (simp; done) | (simp; omega) | omega))))
  have be1 : Below w.heap.size w w1 := bb1
  have HT1 := Lib.hid (HT0.out.below bb1)
  have HL1 := Lib.hid (HL0.out.below bb1)
  have HM1 := Lib.hid (HM0.out.below bb1)
  have BE1 := Lib.hid be1
  clear be1 bb1 hb1 HT0 HL0 HM0
  go_wp2_with fail
  refine (small_any p q cap l.length capl us false _ (HT1.out.below (by repeat (first | exact Below.refl _ _ | assumption | refine below_drewN ?_ _ | refine Below.setCell ?_ (by first | (simp; done) | (simp; omega)) _ | refine Below.alloc ?_ (by first | (simp; done) | (simp; omega) | omega) _ | refine Below.drew ?_ | refine Below.trans ?_ (Below.mono (by assumption) (by first | (simp; done) | (simp; omega) | omega))))) HS.out).mono ?_
  rintro e w2 ⟨rfl, hb2⟩
  have hz2 := hb2.size
  (try simp at hz2)
  have bb2 : Below w1.heap.size w1 w2 := (by repeat (first | exact Below.refl _ _ | assumption | refine below_drewN ?_ _ | refine Below.setCell ?_ (by first | (simp; done) | (simp; omega)) _ | refine Below.alloc ?_ (by first | (simp; done) | (simp; omega) | omega) _ | refine Below.drew ?_ | refine Below.trans ?_ (Below.mono (by assumption) (by first | (simp; done) | (simp; omega) | omega))))
  have be2 : Below w.heap.size w w2 := BE1.out.trans (bb2.mono BE1.out.size)
  have HT2 := Lib.hid (HT1.out.below bb2)
  have HL2 := Lib.hid (HL1.out.below bb2)
  have HM2 := Lib.hid (HM1.out.below bb2)
  have BE2 := Lib.hid be2
  clear be2 bb2 hb2 BE1 HT1 HL1 HM1
  go_wp2_with fail
  go_ret
  exact ⟨rfl, (by have q := BE2.out; repeat (first | exact q | refine Below.setCell ?_ (by first | (simp; done) | omega | (simp; omega)) _ | refine Below.alloc ?_ (by first | (simp; done) | omega | (simp; omega)) _ | refine below_drewN ?_ _ | refine Below.drew ?_))⟩
set_option maxRecDepth 100000 in
set_option maxHeartbeats 1600000 in
theorem sums_l (p : Option Addr) (cap : Nat) (us : List Qn.Un) (q r : Option Addr) (capl capm : Nat) (l m : List Qn.Am) (tt : Int) (w : World) (ht : Tab w p us) (hl : Amts w q l) (hm : Amts w r m) (hs : smallB us l.length = true) (h1 : 30 < l.length) :
    Calls Try.prog 8 #[.slice p us.length cap, .slice q l.length capl, .slice r m.length capm, .int .i64 tt] w fun e w' => e = .returned (.bool true) ∧ Below w.heap.size w w' := by
  have HT0 := Lib.hid ht
  clear ht
  have HL0 := Lib.hid hl
  have HM0 := Lib.hid hm
  clear hl hm
  have HS := Lib.hid hs
  clear hs
  go_enter Try.func8, Try.ntmps8
  go_wp2_with fail
  refine (head_any _).mono ?_
  rintro e w1 ⟨rfl, hb1⟩
  have hz1 := hb1.size
  (try simp at hz1)
  have bb1 : Below w.heap.size w w1 := (by repeat (first | exact Below.refl _ _ | assumption | refine below_drewN ?_ _ | refine Below.setCell ?_ (by first | (simp; done) | (simp; omega)) _ | refine Below.alloc ?_ (by first | (simp; done) | (simp; omega) | omega) _ | refine Below.drew ?_ | refine Below.trans ?_ (Below.mono (by assumption) (by first | (simp; done) | (simp; omega) | omega))))
  have be1 : Below w.heap.size w w1 := bb1
  have HT1 := Lib.hid (HT0.out.below bb1)
  have HL1 := Lib.hid (HL0.out.below bb1)
  have HM1 := Lib.hid (HM0.out.below bb1)
  have BE1 := Lib.hid be1
  clear be1 bb1 hb1 HT0 HL0 HM0
  go_wp2_with fail
  refine (small_any p q cap l.length capl us true _ (HT1.out.below (by repeat (first | exact Below.refl _ _ | assumption | refine below_drewN ?_ _ | refine Below.setCell ?_ (by first | (simp; done) | (simp; omega)) _ | refine Below.alloc ?_ (by first | (simp; done) | (simp; omega) | omega) _ | refine Below.drew ?_ | refine Below.trans ?_ (Below.mono (by assumption) (by first | (simp; done) | (simp; omega) | omega))))) HS.out).mono ?_
  rintro e w2 ⟨rfl, hb2⟩
  have hz2 := hb2.size
  (try simp at hz2)
  have bb2 : Below w1.heap.size w1 w2 := (by repeat (first | exact Below.refl _ _ | assumption | refine below_drewN ?_ _ | refine Below.setCell ?_ (by first | (simp; done) | (simp; omega)) _ | refine Below.alloc ?_ (by first | (simp; done) | (simp; omega) | omega) _ | refine Below.drew ?_ | refine Below.trans ?_ (Below.mono (by assumption) (by first | (simp; done) | (simp; omega) | omega))))
  have be2 : Below w.heap.size w w2 := BE1.out.trans (bb2.mono BE1.out.size)
  have HT2 := Lib.hid (HT1.out.below bb2)
  have HL2 := Lib.hid (HL1.out.below bb2)
  have HM2 := Lib.hid (HM1.out.below bb2)
  have BE2 := Lib.hid be2
  clear be2 bb2 hb2 BE1 HT1 HL1 HM1
  go_wp2_with fail
  go_ret
  exact ⟨rfl, (by have q := BE2.out; repeat (first | exact q | refine Below.setCell ?_ (by first | (simp; done) | omega | (simp; omega)) _ | refine Below.alloc ?_ (by first | (simp; done) | omega | (simp; omega)) _ | refine below_drewN ?_ _ | refine Below.drew ?_))⟩
set_option maxRecDepth 100000 in
set_option maxHeartbeats 1600000 in
theorem sums_m (p : Option Addr) (cap : Nat) (us : List Qn.Un) (q r : Option Addr) (capl capm : Nat) (l m : List Qn.Am) (tt : Int) (w : World) (ht : Tab w p us) (hl : Amts w q l) (hm : Amts w r m) (hs : smallB us l.length = true) (h1 : l.length ≤ 30) (h2 : 30 < m.length) :
    Calls Try.prog 8 #[.slice p us.length cap, .slice q l.length capl, .slice r m.length capm, .int .i64 tt] w fun e w' => e = .returned (.bool true) ∧ Below w.heap.size w w' := by
  have HT0 := Lib.hid ht
  clear ht
  have HL0 := Lib.hid hl
  have HM0 := Lib.hid hm
  clear hl hm
  have HS := Lib.hid hs
  clear hs
  go_enter Try.func8, Try.ntmps8
  go_wp2_with fail
  refine (head_any _).mono ?_
  rintro e w1 ⟨rfl, hb1⟩
  have hz1 := hb1.size
  (try simp at hz1)
  have bb1 : Below w.heap.size w w1 := (by repeat (first | exact Below.refl _ _ | assumption | refine below_drewN ?_ _ | refine Below.setCell ?_ (by first | (simp; done) | (simp; omega)) _ | refine Below.alloc ?_ (by first | (simp; done) | (simp; omega) | omega) _ | refine Below.drew ?_ | refine Below.trans ?_ (Below.mono (by assumption) (by first | (simp; done) | (simp; omega) | omega))))
  have be1 : Below w.heap.size w w1 := bb1
  have HT1 := Lib.hid (HT0.out.below bb1)
  have HL1 := Lib.hid (HL0.out.below bb1)
  have HM1 := Lib.hid (HM0.out.below bb1)
  have BE1 := Lib.hid be1
  clear be1 bb1 hb1 HT0 HL0 HM0
  go_wp2_with fail
  refine (small_any p q cap l.length capl us true _ (HT1.out.below (by repeat (first | exact Below.refl _ _ | assumption | refine below_drewN ?_ _ | refine Below.setCell ?_ (by first | (simp; done) | (simp; omega)) _ | refine Below.alloc ?_ (by first | (simp; done) | (simp; omega) | omega) _ | refine Below.drew ?_ | refine Below.trans ?_ (Below.mono (by assumption) (by first | (simp; done) | (simp; omega) | omega))))) HS.out).mono ?_
  rintro e w2 ⟨rfl, hb2⟩
  have hz2 := hb2.size
  (try simp at hz2)
  have bb2 : Below w1.heap.size w1 w2 := (by repeat (first | exact Below.refl _ _ | assumption | refine below_drewN ?_ _ | refine Below.setCell ?_ (by first | (simp; done) | (simp; omega)) _ | refine Below.alloc ?_ (by first | (simp; done) | (simp; omega) | omega) _ | refine Below.drew ?_ | refine Below.trans ?_ (Below.mono (by assumption) (by first | (simp; done) | (simp; omega) | omega))))
  have be2 : Below w.heap.size w w2 := BE1.out.trans (bb2.mono BE1.out.size)
  have HT2 := Lib.hid (HT1.out.below bb2)
  have HL2 := Lib.hid (HL1.out.below bb2)
  have HM2 := Lib.hid (HM1.out.below bb2)
  have BE2 := Lib.hid be2
  clear be2 bb2 hb2 BE1 HT1 HL1 HM1
  go_wp2_with fail
  go_ret
  exact ⟨rfl, (by have q := BE2.out; repeat (first | exact q | refine Below.setCell ?_ (by first | (simp; done) | omega | (simp; omega)) _ | refine Below.alloc ?_ (by first | (simp; done) | omega | (simp; omega)) _ | refine below_drewN ?_ _ | refine Below.drew ?_))⟩
set_option maxRecDepth 100000 in
set_option maxHeartbeats 1600000 in
theorem baskets_big (p : Option Addr) (cap : Nat) (us : List Qn.Un) (q r : Option Addr) (capl capm : Nat) (l m : List Qn.Am) (tt : Int) (w : World) (ht : Tab w p us) (hl : Amts w q l) (hm : Amts w r m) (hs : smallB us l.length = false) :
    Calls Try.prog 9 #[.slice p us.length cap, .slice q l.length capl, .slice r m.length capm, .int .i64 tt] w fun e w' => e = .returned (.bool true) ∧ Below w.heap.size w w' := by
  have HT0 := Lib.hid ht
  clear ht
  have HL0 := Lib.hid hl
  have HM0 := Lib.hid hm
  clear hl hm
  have HS := Lib.hid hs
  clear hs
  go_enter Try.func9, Try.ntmps9
  go_wp2_with fail
  refine (head_any _).mono ?_
  rintro e w1 ⟨rfl, hb1⟩
  have hz1 := hb1.size
  (try simp at hz1)
  have bb1 : Below w.heap.size w w1 := (by repeat (first | exact Below.refl _ _ | assumption | refine below_drewN ?_ _ | refine Below.setCell ?_ (by first | (simp; done) | (simp; omega)) _ | refine Below.alloc ?_ (by first | (simp; done) | (simp; omega) | omega) _ | refine Below.drew ?_ | refine Below.trans ?_ (Below.mono (by assumption) (by first | (simp; done) | (simp; omega) | omega))))
  have be1 : Below w.heap.size w w1 := bb1
  have HT1 := Lib.hid (HT0.out.below bb1)
  have HL1 := Lib.hid (HL0.out.below bb1)
  have HM1 := Lib.hid (HM0.out.below bb1)
  have BE1 := Lib.hid be1
  clear be1 bb1 hb1 HT0 HL0 HM0
  go_wp2_with fail
  refine (small_any p q cap l.length capl us false _ (HT1.out.below (by repeat (first | exact Below.refl _ _ | assumption | refine below_drewN ?_ _ | refine Below.setCell ?_ (by first | (simp; done) | (simp; omega)) _ | refine Below.alloc ?_ (by first | (simp; done) | (simp; omega) | omega) _ | refine Below.drew ?_ | refine Below.trans ?_ (Below.mono (by assumption) (by first | (simp; done) | (simp; omega) | omega))))) HS.out).mono ?_
  rintro e w2 ⟨rfl, hb2⟩
  have hz2 := hb2.size
  (try simp at hz2)
  have bb2 : Below w1.heap.size w1 w2 := (by repeat (first | exact Below.refl _ _ | assumption | refine below_drewN ?_ _ | refine Below.setCell ?_ (by first | (simp; done) | (simp; omega)) _ | refine Below.alloc ?_ (by first | (simp; done) | (simp; omega) | omega) _ | refine Below.drew ?_ | refine Below.trans ?_ (Below.mono (by assumption) (by first | (simp; done) | (simp; omega) | omega))))
  have be2 : Below w.heap.size w w2 := BE1.out.trans (bb2.mono BE1.out.size)
  have HT2 := Lib.hid (HT1.out.below bb2)
  have HL2 := Lib.hid (HL1.out.below bb2)
  have HM2 := Lib.hid (HM1.out.below bb2)
  have BE2 := Lib.hid be2
  clear be2 bb2 hb2 BE1 HT1 HL1 HM1
  go_wp2_with fail
  go_ret
  exact ⟨rfl, (by have q := BE2.out; repeat (first | exact q | refine Below.setCell ?_ (by first | (simp; done) | omega | (simp; omega)) _ | refine Below.alloc ?_ (by first | (simp; done) | omega | (simp; omega)) _ | refine below_drewN ?_ _ | refine Below.drew ?_))⟩
set_option maxRecDepth 100000 in
set_option maxHeartbeats 1600000 in
theorem baskets_l (p : Option Addr) (cap : Nat) (us : List Qn.Un) (q r : Option Addr) (capl capm : Nat) (l m : List Qn.Am) (tt : Int) (w : World) (ht : Tab w p us) (hl : Amts w q l) (hm : Amts w r m) (hs : smallB us l.length = true) (h1 : 30 < l.length) :
    Calls Try.prog 9 #[.slice p us.length cap, .slice q l.length capl, .slice r m.length capm, .int .i64 tt] w fun e w' => e = .returned (.bool true) ∧ Below w.heap.size w w' := by
  have HT0 := Lib.hid ht
  clear ht
  have HL0 := Lib.hid hl
  have HM0 := Lib.hid hm
  clear hl hm
  have HS := Lib.hid hs
  clear hs
  go_enter Try.func9, Try.ntmps9
  go_wp2_with fail
  refine (head_any _).mono ?_
  rintro e w1 ⟨rfl, hb1⟩
  have hz1 := hb1.size
  (try simp at hz1)
  have bb1 : Below w.heap.size w w1 := (by repeat (first | exact Below.refl _ _ | assumption | refine below_drewN ?_ _ | refine Below.setCell ?_ (by first | (simp; done) | (simp; omega)) _ | refine Below.alloc ?_ (by first | (simp; done) | (simp; omega) | omega) _ | refine Below.drew ?_ | refine Below.trans ?_ (Below.mono (by assumption) (by first | (simp; done) | (simp; omega) | omega))))
  have be1 : Below w.heap.size w w1 := bb1
  have HT1 := Lib.hid (HT0.out.below bb1)
  have HL1 := Lib.hid (HL0.out.below bb1)
  have HM1 := Lib.hid (HM0.out.below bb1)
  have BE1 := Lib.hid be1
  clear be1 bb1 hb1 HT0 HL0 HM0
  go_wp2_with fail
  refine (small_any p q cap l.length capl us true _ (HT1.out.below (by repeat (first | exact Below.refl _ _ | assumption | refine below_drewN ?_ _ | refine Below.setCell ?_ (by first | (simp; done) | (simp; omega)) _ | refine Below.alloc ?_ (by first | (simp; done) | (simp; omega) | omega) _ | refine Below.drew ?_ | refine Below.trans ?_ (Below.mono (by assumption) (by first | (simp; done) | (simp; omega) | omega))))) HS.out).mono ?_
  rintro e w2 ⟨rfl, hb2⟩
  have hz2 := hb2.size
  (try simp at hz2)
  have bb2 : Below w1.heap.size w1 w2 := (by repeat (first | exact Below.refl _ _ | assumption | refine below_drewN ?_ _ | refine Below.setCell ?_ (by first | (simp; done) | (simp; omega)) _ | refine Below.alloc ?_ (by first | (simp; done) | (simp; omega) | omega) _ | refine Below.drew ?_ | refine Below.trans ?_ (Below.mono (by assumption) (by first | (simp; done) | (simp; omega) | omega))))
  have be2 : Below w.heap.size w w2 := BE1.out.trans (bb2.mono BE1.out.size)
  have HT2 := Lib.hid (HT1.out.below bb2)
  have HL2 := Lib.hid (HL1.out.below bb2)
  have HM2 := Lib.hid (HM1.out.below bb2)
  have BE2 := Lib.hid be2
  clear be2 bb2 hb2 BE1 HT1 HL1 HM1
  go_wp2_with fail
  go_ret
  exact ⟨rfl, (by have q := BE2.out; repeat (first | exact q | refine Below.setCell ?_ (by first | (simp; done) | omega | (simp; omega)) _ | refine Below.alloc ?_ (by first | (simp; done) | omega | (simp; omega)) _ | refine below_drewN ?_ _ | refine Below.drew ?_))⟩
set_option maxRecDepth 100000 in
set_option maxHeartbeats 1600000 in
theorem baskets_m (p : Option Addr) (cap : Nat) (us : List Qn.Un) (q r : Option Addr) (capl capm : Nat) (l m : List Qn.Am) (tt : Int) (w : World) (ht : Tab w p us) (hl : Amts w q l) (hm : Amts w r m) (hs : smallB us l.length = true) (h1 : l.length ≤ 30) (h2 : 30 < m.length) :
    Calls Try.prog 9 #[.slice p us.length cap, .slice q l.length capl, .slice r m.length capm, .int .i64 tt] w fun e w' => e = .returned (.bool true) ∧ Below w.heap.size w w' := by
  have HT0 := Lib.hid ht
  clear ht
  have HL0 := Lib.hid hl
  have HM0 := Lib.hid hm
  clear hl hm
  have HS := Lib.hid hs
  clear hs
  go_enter Try.func9, Try.ntmps9
  go_wp2_with fail
  refine (head_any _).mono ?_
  rintro e w1 ⟨rfl, hb1⟩
  have hz1 := hb1.size
  (try simp at hz1)
  have bb1 : Below w.heap.size w w1 := (by repeat (first | exact Below.refl _ _ | assumption | refine below_drewN ?_ _ | refine Below.setCell ?_ (by first | (simp; done) | (simp; omega)) _ | refine Below.alloc ?_ (by first | (simp; done) | (simp; omega) | omega) _ | refine Below.drew ?_ | refine Below.trans ?_ (Below.mono (by assumption) (by first | (simp; done) | (simp; omega) | omega))))
  have be1 : Below w.heap.size w w1 := bb1
  have HT1 := Lib.hid (HT0.out.below bb1)
  have HL1 := Lib.hid (HL0.out.below bb1)
  have HM1 := Lib.hid (HM0.out.below bb1)
  have BE1 := Lib.hid be1
  clear be1 bb1 hb1 HT0 HL0 HM0
  go_wp2_with fail
  refine (small_any p q cap l.length capl us true _ (HT1.out.below (by repeat (first | exact Below.refl _ _ | assumption | refine below_drewN ?_ _ | refine Below.setCell ?_ (by first | (simp; done) | (simp; omega)) _ | refine Below.alloc ?_ (by first | (simp; done) | (simp; omega) | omega) _ | refine Below.drew ?_ | refine Below.trans ?_ (Below.mono (by assumption) (by first | (simp; done) | (simp; omega) | omega))))) HS.out).mono ?_
  rintro e w2 ⟨rfl, hb2⟩
  have hz2 := hb2.size
  (try simp at hz2)
  have bb2 : Below w1.heap.size w1 w2 := (by repeat (first | exact Below.refl _ _ | assumption | refine below_drewN ?_ _ | refine Below.setCell ?_ (by first | (simp; done) | (simp; omega)) _ | refine Below.alloc ?_ (by first | (simp; done) | (simp; omega) | omega) _ | refine Below.drew ?_ | refine Below.trans ?_ (Below.mono (by assumption) (by first | (simp; done) | (simp; omega) | omega))))
  have be2 : Below w.heap.size w w2 := BE1.out.trans (bb2.mono BE1.out.size)
  have HT2 := Lib.hid (HT1.out.below bb2)
  have HL2 := Lib.hid (HL1.out.below bb2)
  have HM2 := Lib.hid (HM1.out.below bb2)
  have BE2 := Lib.hid be2
  clear be2 bb2 hb2 BE1 HT1 HL1 HM1
  go_wp2_with fail
  go_ret
  exact ⟨rfl, (by have q := BE2.out; repeat (first | exact q | refine Below.setCell ?_ (by first | (simp; done) | omega | (simp; omega)) _ | refine Below.alloc ?_ (by first | (simp; done) | omega | (simp; omega)) _ | refine below_drewN ?_ _ | refine Below.drew ?_))⟩
end Go.Proofs.Ytfddfjokpaepfaa

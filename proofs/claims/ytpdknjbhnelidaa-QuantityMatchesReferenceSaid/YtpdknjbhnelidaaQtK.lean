/- The sums of amounts. -/
import Derived.Test.YtpdknjbhnelidaaQtJ
namespace Go.Proofs.Ytpdknjbhnelidaa
open Go.RowKit

def cellsR : List Qn.R → List Value
  | [] => []
  | r :: l => .int .i64 r.1 :: .int .i64 r.2 :: cellsR l
theorem cellsR_rep : ∀ n, cellsR (Qn.zeros n) = ones n
  | 0 => rfl
  | n + 1 => by
    have ih := cellsR_rep n
    unfold Qn.zeros ones at *
    rw [List.replicate_succ, List.replicate_succ, cellsR, ih, List.flatten_cons]
    rfl
theorem cellsR_get : ∀ (l : List Qn.R) (i : Nat) r, l[i]? = some r → (cellsR l)[i * 2]? = some (.int .i64 r.1) ∧ (cellsR l)[i * 2 + 1]? = some (.int .i64 r.2)
  | [], i, r, h => by simp at h
  | x :: l, 0, r, h => by
    obtain rfl : x = r := by simpa using h
    exact ⟨rfl, rfl⟩
  | x :: l, i + 1, r, h => by
    have ih := cellsR_get l i r (by simpa using h)
    rw [cellsR, show (i + 1) * 2 + 1 = i * 2 + 1 + 1 + 1 by omega, show (i + 1) * 2 = i * 2 + 1 + 1 by omega]
    simp only [List.getElem?_cons_succ]
    exact ih
theorem cellsR_set : ∀ (l : List Qn.R) (i : Nat) (r : Qn.R), i < l.length → ((cellsR l).set (i * 2) (.int .i64 r.1)).set (i * 2 + 1) (.int .i64 r.2) = cellsR (l.set i r)
  | [], i, r, h => by simp at h
  | x :: l, 0, r, _ => rfl
  | x :: l, i + 1, r, h => by
    have ih := cellsR_set l i r (by simpa using h)
    rw [cellsR, show (i + 1) * 2 + 1 = i * 2 + 1 + 1 + 1 by omega, show (i + 1) * 2 = i * 2 + 1 + 1 by omega]
    simp only [List.set_cons_succ, cellsR]
    rw [ih]
/-- a list of ratios that fills a block -/
def RRow (w : World) (g : Nat) (l : List Qn.R) : Prop := w.heap[g]? = some (.cells (cellsR l).toArray 31 (0, 0))
theorem add_err {a : Qn.R} {x y p q e : Int} (ha : Qn.RO a) (hb : Qn.RO (x, y)) (h : Rt.addS a.1 a.2 x y = (p, q, e)) : (e = 0 ∧ Qn.RO (p, q)) ∨ e = 2 := by
  by_cases he : e = 0
  · subst he
    exact .inl ⟨rfl, (Qn.add_val (b := (x, y)) ha hb h).1⟩
  · unfold Rt.addS at h
    rw [if_pos ⟨ha, hb⟩] at h
    rcases Qn.mk_err (n := a.1 * y + x * a.2) (Rt.mul_ne (Rt.ok_ne ha) (Rt.ok_ne hb)) with ⟨u, v, k⟩ | k
    · rw [k] at h
      simp only [Prod.mk.injEq] at h
      exact absurd h.2.2.symm he
    · rw [k] at h
      simp only [Prod.mk.injEq] at h
      exact .inr h.2.2.symm
theorem RRow.lt {w : World} {g : Nat} {l : List Qn.R} (h : RRow w g l) : g < w.heap.size := (Array.getElem?_eq_some_iff.1 h).1
theorem RRow.below {w w' : World} {g : Nat} {l : List Qn.R} (h : RRow w g l) (hb : Below w.heap.size w w') : RRow w' g l := (hb.block g h.lt).trans h
theorem RRow.get {w : World} {g i : Nat} {l : List Qn.R} {r : Qn.R} (h : RRow w g l) (hr : l[i]? = some r) :
    w.cell? ⟨g, i * 2, none⟩ = some (.int .i64 r.1) ∧ w.cell? ⟨g, i * 2 + 1, none⟩ = some (.int .i64 r.2) ∧ w.frozen? ⟨g, i * 2, none⟩ = false ∧ w.frozen? ⟨g, i * 2 + 1, none⟩ = false := by
  obtain ⟨h1, h2⟩ := cellsR_get l i r hr
  unfold RRow at h
  have l1 := (List.getElem?_eq_some_iff.1 h1).1
  have l2 := (List.getElem?_eq_some_iff.1 h2).1
  refine ⟨by simp [World.cell?, h, h1], by simp [World.cell?, h, h2], by simp [World.frozen?, h], by simp [World.frozen?, h]⟩
theorem RRow.set {w : World} {g i : Nat} {l : List Qn.R} (h : RRow w g l) (hi : i < l.length) (p q : Int) :
    RRow ((w.setCell ⟨g, i * 2, none⟩ (.int .i64 p)).setCell ⟨g, i * 2 + 1, none⟩ (.int .i64 q)) g (l.set i (p, q)) := by
  unfold RRow
  rw [setCell_row (setCell_row h), ← cellsR_set l i (p, q) hi]
  simp
/-- amounts added up: C: an amount's value in its target, T: the target -/
def accS (C : Qn.Am → Int × Int × Int) (T : Qn.Am → Nat) : List Qn.R → List Qn.Am → Option (List Qn.R)
  | out, [] => some out
  | out, a :: l =>
    if (C a).2.2 = 0 then
      (if (Rt.addS (out.getD (T a) (0, 1)).1 (out.getD (T a) (0, 1)).2 (C a).1 (C a).2.1).2.2 = 0 then
        accS C T (out.set (T a) ((Rt.addS (out.getD (T a) (0, 1)).1 (out.getD (T a) (0, 1)).2 (C a).1 (C a).2.1).1, (Rt.addS (out.getD (T a) (0, 1)).1 (out.getD (T a) (0, 1)).2 (C a).1 (C a).2.1).2.1)) l
      else none)
    else none
theorem acc_err {C : Qn.Am → Int × Int × Int} {T : Qn.Am → Nat} {o : List Qn.R} {a : Qn.Am} {l : List Qn.Am} (h : (C a).2.2 ≠ 0) : accS C T o (a :: l) = none := by rw [accS, if_neg h]
theorem acc_far {C : Qn.Am → Int × Int × Int} {T : Qn.Am → Nat} {o : List Qn.R} {a : Qn.Am} {l : List Qn.Am} {r : Qn.R} {x y p q e : Int} (hc : C a = (x, y, 0)) (ho : o[T a]? = some r) (hs : Rt.addS r.1 r.2 x y = (p, q, e)) (h : e ≠ 0) : accS C T o (a :: l) = none := by
  rw [accS, hc, if_pos rfl, List.getD_eq_getElem?_getD, ho]
  simp only [Option.getD_some, hs]
  rw [if_neg h]
theorem acc_go {C : Qn.Am → Int × Int × Int} {T : Qn.Am → Nat} {o : List Qn.R} {a : Qn.Am} {l : List Qn.Am} {r : Qn.R} {x y p q : Int} (hc : C a = (x, y, 0)) (ho : o[T a]? = some r) (hs : Rt.addS r.1 r.2 x y = (p, q, 0)) : accS C T o (a :: l) = accS C T (o.set (T a) (p, q)) l := by
  rw [accS, hc, if_pos rfl, List.getD_eq_getElem?_getD, ho]
  simp only [Option.getD_some, hs, if_true]
/-- what add answers -/
def AddPost (w : World) (n : Nat) (res : Option (List Qn.R)) (e : Ending) (w' : World) : Prop :=
  Below w.heap.size w w' ∧ ((∃ o g, res = some o ∧ e = .returned (.tuple #[.slice (some ⟨g, 0, none⟩) n n, .int .i64 0]) ∧ w.heap.size ≤ g ∧ RRow w' g o) ∨ (res = none ∧ e = .returned (.tuple #[.slice none 0 0, .int .i64 2])))
set_option maxRecDepth 100000 in
set_option maxHeartbeats 3200000 in
theorem add_sum (p q tp : Option Addr) (cap capl n m : Nat) (l : List Qn.Am) (C : Qn.Am → Int × Int × Int) (T : Qn.Am → Nat) (res : Option (List Qn.R)) (w : World) (hn20 : n ≤ 20) (hll : l.length ≤ 1000) (hl : Amts w q l)
    (hf : ∀ (k : Nat) a w', l[k]? = some a → Below w.heap.size w w' → Calls Try.prog 33 #[AV a, .pointer tp] w' fun e w'' => e = .returned (.int .i64 (T a : Nat)) ∧ Below w'.heap.size w' w'')
    (hg : ∀ (k : Nat) a w', l[k]? = some a → Below w.heap.size w w' → Calls Try.prog 32 #[.slice p m cap, AV a, .int .i64 (T a : Nat)] w' fun e w'' => e = .returned (RV (C a)) ∧ Below w'.heap.size w' w'')
    (hT : ∀ a ∈ l, T a < n) (hC : ∀ a ∈ l, (∃ x y, C a = (x, y, 0) ∧ Qn.RO (x, y)) ∨ C a = (0, 0, 2)) (hres : accS C T (Qn.zeros n) l = res) :
    Calls Try.prog 31 #[.slice q l.length capl, .int .i64 (n : Nat), .func (.func 32) #[.slice p m cap] #[], .func (.func 33) #[] #[.pointer tp]] w (AddPost w n res) := by
  have HL := Lib.hid hl
  have HF := Lib.hid hf
  have HG := Lib.hid hg
  have HTN := Lib.hid hT
  have HC := Lib.hid hC
  have HRES := Lib.hid hres
  clear hl hf hg hT hC hres
  go_enter Try.func31, Try.ntmps31
  go_wp2_with fail
  refine (repeat_calls _ _ n _ hn20 (by go_simp) (by go_simp)).mono ?_
  rintro e w1 ⟨g, rfl, hg, hrow, hb1⟩
  have hbe : Below w.heap.size w w1 := (by repeat (first | exact Below.refl _ _ | assumption | refine below_drewN ?_ _ | refine Below.setCell ?_ (by first | (simp; done) | (simp; omega)) _ | refine Below.alloc ?_ (by first | (simp; done) | (simp; omega) | omega) _ | refine Below.drew ?_ | refine Below.trans ?_ (Below.mono (by assumption) (by first | (simp; done) | (simp; omega) | omega))))
  have hgw : w.heap.size ≤ g := by simp at hg; omega
  have hrr : RRow w1 g (Qn.zeros n) := by unfold RRow; rw [cellsR_rep]; exact hrow
  have HB1 := Lib.hid hbe
  have HRR := Lib.hid hrr
  clear hg hrow hb1 hbe hrr
  go_wp2_with fail
  go_loopw [22] (fun i wr => ∃ (k : Nat) (o : List Qn.R), i = .int .i64 k ∧ k ≤ l.length ∧ o.length = n ∧ (∀ r ∈ o, Qn.RO r) ∧ RRow wr g o ∧ Below w.heap.size w wr ∧ accS C T o (l.drop k) = res) (fun i _ => l.length - (intOf i).toNat)
  case atStart => exact ⟨0, Qn.zeros n, rfl, Nat.zero_le _, List.length_replicate, Qn.zeros_ok n, HRR.out, HB1.out, HRES.out⟩
  case round =>
    obtain ⟨k, o, rfl, hk, ho, hok, hro, hbw, hacc⟩ := hrel
    have HACC := Lib.hid hacc
    have HBW := Lib.hid hbw
    have HRO := Lib.hid hro
    have HOK := Lib.hid hok
    clear hacc hbw hro hok
    by_cases hlt : k < l.length
    · have hu : l[k]? = some l[k] := List.getElem?_eq_getElem hlt
      have hd : l.drop k = l[k] :: l.drop (k + 1) := List.drop_eq_getElem_cons hlt
      have hmem : l[k] ∈ l := List.getElem_mem hlt
      generalize l[k] = a at hu hd hmem
      obtain ⟨b, off, rfl, hc, _, hbl⟩ := (HL.out.below HBW.out).at hu
      obtain ⟨c0, c1, c2⟩ := hc
      have hta := HTN.out a hmem
      obtain ⟨r, hr⟩ : ∃ r, o[T a]? = some r := ⟨_, List.getElem?_eq_getElem (by omega)⟩
      have hrok := HOK.out r (List.mem_of_getElem? hr)
      have HACC2 := Lib.hid (show accS C T o (a :: l.drop (k + 1)) = res by rw [← hd]; exact HACC.out)
      have HTG := Lib.hid (fun (w' : World) (hb : Below wr.heap.size wr w') => HF.out k a w' hu (HBW.out.trans (hb.mono HBW.out.size)))
      have HCV := Lib.hid (fun (w' : World) (hb : Below wr.heap.size wr w') => HG.out k a w' hu (HBW.out.trans (hb.mono HBW.out.size)))
      have HCC := Lib.hid (HC.out a hmem)
      have HR := Lib.hid hr
      have HRK := Lib.hid hrok
      obtain ⟨d0, d1, e3, e4⟩ := HRO.out.get hr
      have hgl := HRO.out.lt
      clear hu hd hmem hr hrok
      rcases HCC.out with ⟨x, y, hcc, hxy⟩ | hcc
      · have HCE := Lib.hid hcc
        have HXY := Lib.hid hxy
        clear hcc hxy
        obtain ⟨p', q', e', hs⟩ : ∃ p' q' e', Rt.addS r.1 r.2 x y = (p', q', e') := ⟨_, _, _, rfl⟩
        have HS := Lib.hid hs
        have HSE := Lib.hid (add_err HRK.out HXY.out hs)
        clear hs
        have HRO0 := HRO
        go_wp2_with fail
        refine (HTG.out _ (by repeat (first | exact Below.refl _ _ | assumption | refine below_drewN ?_ _ | refine Below.setCell ?_ (by first | (simp; done) | (simp; omega)) _ | refine Below.alloc ?_ (by first | (simp; done) | (simp; omega) | omega) _ | refine Below.drew ?_ | refine Below.trans ?_ (Below.mono (by assumption) (by first | (simp; done) | (simp; omega) | omega))))).mono ?_
        rintro e w1 ⟨rfl, hb1⟩
        have hz1 := hb1.size
        (try simp at hz1)
        have bb1 : Below wr.heap.size wr w1 := (by repeat (first | exact Below.refl _ _ | assumption | refine below_drewN ?_ _ | refine Below.setCell ?_ (by first | (simp; done) | (simp; omega)) _ | refine Below.alloc ?_ (by first | (simp; done) | (simp; omega) | omega) _ | refine Below.drew ?_ | refine Below.trans ?_ (Below.mono (by assumption) (by first | (simp; done) | (simp; omega) | omega))))
        have be1 : Below wr.heap.size wr w1 := bb1
        have c1_a_0 : w1.cell? ⟨wr.heap.size, 0, none⟩ = some (.int .i64 a.1) := cell_keep hb1 (by go_simp)
        have c1_a_1 : w1.cell? ⟨wr.heap.size, 1, none⟩ = some (.int .i64 a.2.1) := cell_keep hb1 (by go_simp)
        have c1_a_2 : w1.cell? ⟨wr.heap.size, 2, none⟩ = some (.int .i64 a.2.2) := cell_keep hb1 (by go_simp)
        have l1_a : wr.heap.size < w1.heap.size := by omega
        have m1_a : wr.heap.size < w1.heap.size + 1 := by omega
        have HRO1 := Lib.hid (HRO0.out.below bb1)
        have BE1 := Lib.hid be1
        clear be1 bb1 hb1 HRO0
        go_wp2_with fail
        refine (HCV.out _ BE1.out).mono ?_
        rintro e w2 ⟨rfl, hb2⟩
        rw [HCE.out]
        simp only [RV]
        have hz2 := hb2.size
        (try simp at hz2)
        have bb2 : Below w1.heap.size w1 w2 := (by repeat (first | exact Below.refl _ _ | assumption | refine below_drewN ?_ _ | refine Below.setCell ?_ (by first | (simp; done) | (simp; omega)) _ | refine Below.alloc ?_ (by first | (simp; done) | (simp; omega) | omega) _ | refine Below.drew ?_ | refine Below.trans ?_ (Below.mono (by assumption) (by first | (simp; done) | (simp; omega) | omega))))
        have be2 : Below wr.heap.size wr w2 := BE1.out.trans (bb2.mono BE1.out.size)
        have c2_a_0 : w2.cell? ⟨wr.heap.size, 0, none⟩ = some (.int .i64 a.1) := cell_keep bb2 c1_a_0
        have c2_a_1 : w2.cell? ⟨wr.heap.size, 1, none⟩ = some (.int .i64 a.2.1) := cell_keep bb2 c1_a_1
        have c2_a_2 : w2.cell? ⟨wr.heap.size, 2, none⟩ = some (.int .i64 a.2.2) := cell_keep bb2 c1_a_2
        have l2_a : wr.heap.size < w2.heap.size := by omega
        have m2_a : wr.heap.size < w2.heap.size + 1 := by omega
        have HRO2 := Lib.hid (HRO1.out.below bb2)
        have BE2 := Lib.hid be2
        clear be2 bb2 hb2 BE1 c1_a_0 c1_a_1 c1_a_2 l1_a m1_a HRO1
        go_upto_region 9 with fail
        obtain ⟨w3, hw3⟩ : ∃ W, W = (w2.alloc (.cells #[.int .i64 x, .int .i64 y] 31)) := ⟨_, rfl⟩
        have bb3 : Below w2.heap.size w2 w3 := by rw [hw3]; exact (by repeat (first | exact Below.refl _ _ | assumption | refine below_drewN ?_ _ | refine Below.setCell ?_ (by first | (simp; done) | (simp; omega)) _ | refine Below.alloc ?_ (by first | (simp; done) | (simp; omega) | omega) _ | refine Below.drew ?_ | refine Below.trans ?_ (Below.mono (by assumption) (by first | (simp; done) | (simp; omega) | omega))))
        have n3_v_0 : w3.cell? ⟨w2.heap.size, 0, none⟩ = some (.int .i64 x) := by rw [hw3]; go_simp
        have n3_v_1 : w3.cell? ⟨w2.heap.size, 1, none⟩ = some (.int .i64 y) := by rw [hw3]; go_simp
        rw [← hw3]
        have hz3 := bb3.size
        (try simp at hz3)
        clear hw3
        have be3 : Below wr.heap.size wr w3 := BE2.out.trans (bb3.mono BE2.out.size)
        have c3_a_0 : w3.cell? ⟨wr.heap.size, 0, none⟩ = some (.int .i64 a.1) := cell_keep bb3 c2_a_0
        have c3_a_1 : w3.cell? ⟨wr.heap.size, 1, none⟩ = some (.int .i64 a.2.1) := cell_keep bb3 c2_a_1
        have c3_a_2 : w3.cell? ⟨wr.heap.size, 2, none⟩ = some (.int .i64 a.2.2) := cell_keep bb3 c2_a_2
        have l3_a : wr.heap.size < w3.heap.size := by omega
        have m3_a : wr.heap.size < w3.heap.size + 1 := by omega
        have c3_v_0 : w3.cell? ⟨w2.heap.size, 0, none⟩ = some (.int .i64 x) := n3_v_0
        have c3_v_1 : w3.cell? ⟨w2.heap.size, 1, none⟩ = some (.int .i64 y) := n3_v_1
        have l3_v : w2.heap.size < w3.heap.size := World.block_lt_of_cell? w3 _ c3_v_0
        have m3_v : w2.heap.size < w3.heap.size + 1 := by omega
        have HRO3 := Lib.hid (HRO2.out.below bb3)
        have BE3 := Lib.hid be3
        clear be3 bb3 BE2 c2_a_0 c2_a_1 c2_a_2 l2_a m2_a HRO2
        have hgr := HRO3.out.get HR.out
        obtain ⟨d0, d1, e3, e4⟩ := hgr
        have hg3 := HRO3.out.lt
        have HBZ := Lib.hid (HBW.out.trans (BE3.out.mono HBW.out.size))
        have hgl2 : (T a : Int) < (n : Int) := by omega
        have hgl3 : (0 : Int) ≤ (T a : Int) := by omega
        go_cut [15] (fun s15 wx => s15 = .int .i64 e' ∧ RRow wx g (o.set (T a) (p', q')) ∧ Below w.heap.size w wx)
        case first =>
          have hx1 := HRK.out
          have hx2 := HXY.out
          obtain ⟨b1, b2, b3, b4, _⟩ := hx1
          obtain ⟨z1, z2, z3, z4, _⟩ := hx2
          go_region_with (go_at_call 49; refine (add_any r.1 r.2 x y _ (by omega) (by omega) (by omega) (by omega)).mono ?_; rintro e w' ⟨rfl, hb'⟩; rw [HS.out]; simp only [RV]; have x0 := cell_keep hb' d0; have x1 := cell_keep hb' d1; have x2 := (hb'.frozen (p := ⟨g, T a * 2, none⟩) hg3).trans e3; have x3 := (hb'.frozen (p := ⟨g, T a * 2 + 1, none⟩) hg3).trans e4; have x4 := Nat.lt_of_lt_of_le hg3 hb'.size; have x5 : RRow w' g o := (hb'.block g hg3).trans HRO3.out; have x6 : Below w.heap.size w w' := (by first | exact (Below.drew HBZ.out).trans (hb'.mono HBZ.out.size) | exact HBZ.out.trans (hb'.mono HBZ.out.size)))
          all_goals
            go_wp2_with fail
            go_meet
            exact ⟨rfl, RRow.set x5 (by omega) p' q', (x6.setCell (by first | (simp; done) | (simp; omega)) _).setCell (by first | (simp; done) | (simp; omega)) _⟩
        case rest =>
          obtain ⟨rfl, hset, hbf⟩ := hcut
          have HSET := Lib.hid hset
          have HBF := Lib.hid hbf
          clear hset hbf d0 d1 e3 e4
          rcases HSE.out with ⟨rfl, hpq⟩ | rfl
          · have hacc := (acc_go HCE.out HR.out HS.out).symm.trans HACC2.out
            have HAN := Lib.hid hacc
            have HPQ := Lib.hid hpq
            clear hacc hpq
            go_wp2_with fail
            go_roundw
            case rel => exact ⟨k + 1, _, by simp, hlt, by rw [List.length_set]; exact ho, fun r hr => (List.mem_or_eq_of_mem_set hr).elim (HOK.out r) (fun e => e ▸ HPQ.out), HSET.out, HBF.out, HAN.out⟩
            case measure => simp only [intOf]; exact meas_lt hlt
          · have hnone := HACC2.out.symm.trans (acc_far HCE.out HR.out HS.out (by decide))
            have HN := Lib.hid hnone
            clear hnone
            go_wp2_with fail
            go_ret2
            exact ⟨HBF.out, .inr ⟨HN.out, rfl⟩⟩
      · have hnone : res = none := by rw [← HACC2.out]; exact acc_err (by rw [hcc]; decide)
        have HCE := Lib.hid hcc
        have HN := Lib.hid hnone
        clear hcc hnone
        have HRO0 := HRO
        go_wp2_with fail
        refine (HTG.out _ (by repeat (first | exact Below.refl _ _ | assumption | refine below_drewN ?_ _ | refine Below.setCell ?_ (by first | (simp; done) | (simp; omega)) _ | refine Below.alloc ?_ (by first | (simp; done) | (simp; omega) | omega) _ | refine Below.drew ?_ | refine Below.trans ?_ (Below.mono (by assumption) (by first | (simp; done) | (simp; omega) | omega))))).mono ?_
        rintro e w1 ⟨rfl, hb1⟩
        have hz1 := hb1.size
        (try simp at hz1)
        have bb1 : Below wr.heap.size wr w1 := (by repeat (first | exact Below.refl _ _ | assumption | refine below_drewN ?_ _ | refine Below.setCell ?_ (by first | (simp; done) | (simp; omega)) _ | refine Below.alloc ?_ (by first | (simp; done) | (simp; omega) | omega) _ | refine Below.drew ?_ | refine Below.trans ?_ (Below.mono (by assumption) (by first | (simp; done) | (simp; omega) | omega))))
        have be1 : Below wr.heap.size wr w1 := bb1
        have c1_a_0 : w1.cell? ⟨wr.heap.size, 0, none⟩ = some (.int .i64 a.1) := cell_keep hb1 (by go_simp)
        have c1_a_1 : w1.cell? ⟨wr.heap.size, 1, none⟩ = some (.int .i64 a.2.1) := cell_keep hb1 (by go_simp)
        have c1_a_2 : w1.cell? ⟨wr.heap.size, 2, none⟩ = some (.int .i64 a.2.2) := cell_keep hb1 (by go_simp)
        have l1_a : wr.heap.size < w1.heap.size := by omega
        have m1_a : wr.heap.size < w1.heap.size + 1 := by omega
        have HRO1 := Lib.hid (HRO0.out.below bb1)
        have BE1 := Lib.hid be1
        clear be1 bb1 hb1 HRO0
        go_wp2_with fail
        refine (HCV.out _ BE1.out).mono ?_
        rintro e w2 ⟨rfl, hb2⟩
        rw [HCE.out]
        simp only [RV]
        have hz2 := hb2.size
        (try simp at hz2)
        have bb2 : Below w1.heap.size w1 w2 := (by repeat (first | exact Below.refl _ _ | assumption | refine below_drewN ?_ _ | refine Below.setCell ?_ (by first | (simp; done) | (simp; omega)) _ | refine Below.alloc ?_ (by first | (simp; done) | (simp; omega) | omega) _ | refine Below.drew ?_ | refine Below.trans ?_ (Below.mono (by assumption) (by first | (simp; done) | (simp; omega) | omega))))
        have be2 : Below wr.heap.size wr w2 := BE1.out.trans (bb2.mono BE1.out.size)
        have c2_a_0 : w2.cell? ⟨wr.heap.size, 0, none⟩ = some (.int .i64 a.1) := cell_keep bb2 c1_a_0
        have c2_a_1 : w2.cell? ⟨wr.heap.size, 1, none⟩ = some (.int .i64 a.2.1) := cell_keep bb2 c1_a_1
        have c2_a_2 : w2.cell? ⟨wr.heap.size, 2, none⟩ = some (.int .i64 a.2.2) := cell_keep bb2 c1_a_2
        have l2_a : wr.heap.size < w2.heap.size := by omega
        have m2_a : wr.heap.size < w2.heap.size + 1 := by omega
        have HRO2 := Lib.hid (HRO1.out.below bb2)
        have BE2 := Lib.hid be2
        clear be2 bb2 hb2 BE1 c1_a_0 c1_a_1 c1_a_2 l1_a m1_a HRO1
        go_wp2_with fail
        go_ret2
        exact ⟨by have q := HBW.out.trans (BE2.out.mono HBW.out.size); repeat (first | exact q | refine Below.alloc ?_ (by first | omega | (simp; omega)) _), .inr ⟨HN.out, rfl⟩⟩
    · obtain rfl : k = l.length := by omega
      have hres : res = some o := by rw [← HACC.out, List.drop_eq_nil_of_le (Nat.le_refl _)]; rfl
      have HN := Lib.hid hres
      clear hres
      go_wp2_with fail
      go_ret2
      exact ⟨HBW.out, .inl ⟨o, g, HN.out, rfl, hgw, HRO.out⟩⟩
set_option maxRecDepth 100000 in
set_option maxHeartbeats 3200000 in
theorem add_basket (p q tp : Option Addr) (cap capl n m : Nat) (l : List Qn.Am) (C : Qn.Am → Int × Int × Int) (T : Qn.Am → Nat) (res : Option (List Qn.R)) (w : World) (hn20 : n ≤ 20) (hll : l.length ≤ 1000) (hl : Amts w q l)
    (hf : ∀ (k : Nat) a w', l[k]? = some a → Below w.heap.size w w' → Calls Try.prog 35 #[AV a, .pointer tp] w' fun e w'' => e = .returned (.int .i64 (T a : Nat)) ∧ Below w'.heap.size w' w'')
    (hg : ∀ (k : Nat) a w', l[k]? = some a → Below w.heap.size w w' → Calls Try.prog 32 #[.slice p m cap, AV a, .int .i64 (T a : Nat)] w' fun e w'' => e = .returned (RV (C a)) ∧ Below w'.heap.size w' w'')
    (hT : ∀ a ∈ l, T a < n) (hC : ∀ a ∈ l, (∃ x y, C a = (x, y, 0) ∧ Qn.RO (x, y)) ∨ C a = (0, 0, 2)) (hres : accS C T (Qn.zeros n) l = res) :
    Calls Try.prog 31 #[.slice q l.length capl, .int .i64 (n : Nat), .func (.func 32) #[.slice p m cap] #[], .func (.func 35) #[] #[.pointer tp]] w (AddPost w n res) := by
  have HL := Lib.hid hl
  have HF := Lib.hid hf
  have HG := Lib.hid hg
  have HTN := Lib.hid hT
  have HC := Lib.hid hC
  have HRES := Lib.hid hres
  clear hl hf hg hT hC hres
  go_enter Try.func31, Try.ntmps31
  go_wp2_with fail
  refine (repeat_calls _ _ n _ hn20 (by go_simp) (by go_simp)).mono ?_
  rintro e w1 ⟨g, rfl, hg, hrow, hb1⟩
  have hbe : Below w.heap.size w w1 := (by repeat (first | exact Below.refl _ _ | assumption | refine below_drewN ?_ _ | refine Below.setCell ?_ (by first | (simp; done) | (simp; omega)) _ | refine Below.alloc ?_ (by first | (simp; done) | (simp; omega) | omega) _ | refine Below.drew ?_ | refine Below.trans ?_ (Below.mono (by assumption) (by first | (simp; done) | (simp; omega) | omega))))
  have hgw : w.heap.size ≤ g := by simp at hg; omega
  have hrr : RRow w1 g (Qn.zeros n) := by unfold RRow; rw [cellsR_rep]; exact hrow
  have HB1 := Lib.hid hbe
  have HRR := Lib.hid hrr
  clear hg hrow hb1 hbe hrr
  go_wp2_with fail
  go_loopw [22] (fun i wr => ∃ (k : Nat) (o : List Qn.R), i = .int .i64 k ∧ k ≤ l.length ∧ o.length = n ∧ (∀ r ∈ o, Qn.RO r) ∧ RRow wr g o ∧ Below w.heap.size w wr ∧ accS C T o (l.drop k) = res) (fun i _ => l.length - (intOf i).toNat)
  case atStart => exact ⟨0, Qn.zeros n, rfl, Nat.zero_le _, List.length_replicate, Qn.zeros_ok n, HRR.out, HB1.out, HRES.out⟩
  case round =>
    obtain ⟨k, o, rfl, hk, ho, hok, hro, hbw, hacc⟩ := hrel
    have HACC := Lib.hid hacc
    have HBW := Lib.hid hbw
    have HRO := Lib.hid hro
    have HOK := Lib.hid hok
    clear hacc hbw hro hok
    by_cases hlt : k < l.length
    · have hu : l[k]? = some l[k] := List.getElem?_eq_getElem hlt
      have hd : l.drop k = l[k] :: l.drop (k + 1) := List.drop_eq_getElem_cons hlt
      have hmem : l[k] ∈ l := List.getElem_mem hlt
      generalize l[k] = a at hu hd hmem
      obtain ⟨b, off, rfl, hc, _, hbl⟩ := (HL.out.below HBW.out).at hu
      obtain ⟨c0, c1, c2⟩ := hc
      have hta := HTN.out a hmem
      obtain ⟨r, hr⟩ : ∃ r, o[T a]? = some r := ⟨_, List.getElem?_eq_getElem (by omega)⟩
      have hrok := HOK.out r (List.mem_of_getElem? hr)
      have HACC2 := Lib.hid (show accS C T o (a :: l.drop (k + 1)) = res by rw [← hd]; exact HACC.out)
      have HTG := Lib.hid (fun (w' : World) (hb : Below wr.heap.size wr w') => HF.out k a w' hu (HBW.out.trans (hb.mono HBW.out.size)))
      have HCV := Lib.hid (fun (w' : World) (hb : Below wr.heap.size wr w') => HG.out k a w' hu (HBW.out.trans (hb.mono HBW.out.size)))
      have HCC := Lib.hid (HC.out a hmem)
      have HR := Lib.hid hr
      have HRK := Lib.hid hrok
      obtain ⟨d0, d1, e3, e4⟩ := HRO.out.get hr
      have hgl := HRO.out.lt
      clear hu hd hmem hr hrok
      rcases HCC.out with ⟨x, y, hcc, hxy⟩ | hcc
      · have HCE := Lib.hid hcc
        have HXY := Lib.hid hxy
        clear hcc hxy
        obtain ⟨p', q', e', hs⟩ : ∃ p' q' e', Rt.addS r.1 r.2 x y = (p', q', e') := ⟨_, _, _, rfl⟩
        have HS := Lib.hid hs
        have HSE := Lib.hid (add_err HRK.out HXY.out hs)
        clear hs
        have HRO0 := HRO
        go_wp2_with fail
        refine (HTG.out _ (by repeat (first | exact Below.refl _ _ | assumption | refine below_drewN ?_ _ | refine Below.setCell ?_ (by first | (simp; done) | (simp; omega)) _ | refine Below.alloc ?_ (by first | (simp; done) | (simp; omega) | omega) _ | refine Below.drew ?_ | refine Below.trans ?_ (Below.mono (by assumption) (by first | (simp; done) | (simp; omega) | omega))))).mono ?_
        rintro e w1 ⟨rfl, hb1⟩
        have hz1 := hb1.size
        (try simp at hz1)
        have bb1 : Below wr.heap.size wr w1 := (by repeat (first | exact Below.refl _ _ | assumption | refine below_drewN ?_ _ | refine Below.setCell ?_ (by first | (simp; done) | (simp; omega)) _ | refine Below.alloc ?_ (by first | (simp; done) | (simp; omega) | omega) _ | refine Below.drew ?_ | refine Below.trans ?_ (Below.mono (by assumption) (by first | (simp; done) | (simp; omega) | omega))))
        have be1 : Below wr.heap.size wr w1 := bb1
        have c1_a_0 : w1.cell? ⟨wr.heap.size, 0, none⟩ = some (.int .i64 a.1) := cell_keep hb1 (by go_simp)
        have c1_a_1 : w1.cell? ⟨wr.heap.size, 1, none⟩ = some (.int .i64 a.2.1) := cell_keep hb1 (by go_simp)
        have c1_a_2 : w1.cell? ⟨wr.heap.size, 2, none⟩ = some (.int .i64 a.2.2) := cell_keep hb1 (by go_simp)
        have l1_a : wr.heap.size < w1.heap.size := by omega
        have m1_a : wr.heap.size < w1.heap.size + 1 := by omega
        have HRO1 := Lib.hid (HRO0.out.below bb1)
        have BE1 := Lib.hid be1
        clear be1 bb1 hb1 HRO0
        go_wp2_with fail
        refine (HCV.out _ BE1.out).mono ?_
        rintro e w2 ⟨rfl, hb2⟩
        rw [HCE.out]
        simp only [RV]
        have hz2 := hb2.size
        (try simp at hz2)
        have bb2 : Below w1.heap.size w1 w2 := (by repeat (first | exact Below.refl _ _ | assumption | refine below_drewN ?_ _ | refine Below.setCell ?_ (by first | (simp; done) | (simp; omega)) _ | refine Below.alloc ?_ (by first | (simp; done) | (simp; omega) | omega) _ | refine Below.drew ?_ | refine Below.trans ?_ (Below.mono (by assumption) (by first | (simp; done) | (simp; omega) | omega))))
        have be2 : Below wr.heap.size wr w2 := BE1.out.trans (bb2.mono BE1.out.size)
        have c2_a_0 : w2.cell? ⟨wr.heap.size, 0, none⟩ = some (.int .i64 a.1) := cell_keep bb2 c1_a_0
        have c2_a_1 : w2.cell? ⟨wr.heap.size, 1, none⟩ = some (.int .i64 a.2.1) := cell_keep bb2 c1_a_1
        have c2_a_2 : w2.cell? ⟨wr.heap.size, 2, none⟩ = some (.int .i64 a.2.2) := cell_keep bb2 c1_a_2
        have l2_a : wr.heap.size < w2.heap.size := by omega
        have m2_a : wr.heap.size < w2.heap.size + 1 := by omega
        have HRO2 := Lib.hid (HRO1.out.below bb2)
        have BE2 := Lib.hid be2
        clear be2 bb2 hb2 BE1 c1_a_0 c1_a_1 c1_a_2 l1_a m1_a HRO1
        go_upto_region 9 with fail
        obtain ⟨w3, hw3⟩ : ∃ W, W = (w2.alloc (.cells #[.int .i64 x, .int .i64 y] 31)) := ⟨_, rfl⟩
        have bb3 : Below w2.heap.size w2 w3 := by rw [hw3]; exact (by repeat (first | exact Below.refl _ _ | assumption | refine below_drewN ?_ _ | refine Below.setCell ?_ (by first | (simp; done) | (simp; omega)) _ | refine Below.alloc ?_ (by first | (simp; done) | (simp; omega) | omega) _ | refine Below.drew ?_ | refine Below.trans ?_ (Below.mono (by assumption) (by first | (simp; done) | (simp; omega) | omega))))
        have n3_v_0 : w3.cell? ⟨w2.heap.size, 0, none⟩ = some (.int .i64 x) := by rw [hw3]; go_simp
        have n3_v_1 : w3.cell? ⟨w2.heap.size, 1, none⟩ = some (.int .i64 y) := by rw [hw3]; go_simp
        rw [← hw3]
        have hz3 := bb3.size
        (try simp at hz3)
        clear hw3
        have be3 : Below wr.heap.size wr w3 := BE2.out.trans (bb3.mono BE2.out.size)
        have c3_a_0 : w3.cell? ⟨wr.heap.size, 0, none⟩ = some (.int .i64 a.1) := cell_keep bb3 c2_a_0
        have c3_a_1 : w3.cell? ⟨wr.heap.size, 1, none⟩ = some (.int .i64 a.2.1) := cell_keep bb3 c2_a_1
        have c3_a_2 : w3.cell? ⟨wr.heap.size, 2, none⟩ = some (.int .i64 a.2.2) := cell_keep bb3 c2_a_2
        have l3_a : wr.heap.size < w3.heap.size := by omega
        have m3_a : wr.heap.size < w3.heap.size + 1 := by omega
        have c3_v_0 : w3.cell? ⟨w2.heap.size, 0, none⟩ = some (.int .i64 x) := n3_v_0
        have c3_v_1 : w3.cell? ⟨w2.heap.size, 1, none⟩ = some (.int .i64 y) := n3_v_1
        have l3_v : w2.heap.size < w3.heap.size := World.block_lt_of_cell? w3 _ c3_v_0
        have m3_v : w2.heap.size < w3.heap.size + 1 := by omega
        have HRO3 := Lib.hid (HRO2.out.below bb3)
        have BE3 := Lib.hid be3
        clear be3 bb3 BE2 c2_a_0 c2_a_1 c2_a_2 l2_a m2_a HRO2
        have hgr := HRO3.out.get HR.out
        obtain ⟨d0, d1, e3, e4⟩ := hgr
        have hg3 := HRO3.out.lt
        have HBZ := Lib.hid (HBW.out.trans (BE3.out.mono HBW.out.size))
        have hgl2 : (T a : Int) < (n : Int) := by omega
        have hgl3 : (0 : Int) ≤ (T a : Int) := by omega
        go_cut [15] (fun s15 wx => s15 = .int .i64 e' ∧ RRow wx g (o.set (T a) (p', q')) ∧ Below w.heap.size w wx)
        case first =>
          have hx1 := HRK.out
          have hx2 := HXY.out
          obtain ⟨b1, b2, b3, b4, _⟩ := hx1
          obtain ⟨z1, z2, z3, z4, _⟩ := hx2
          go_region_with (go_at_call 49; refine (add_any r.1 r.2 x y _ (by omega) (by omega) (by omega) (by omega)).mono ?_; rintro e w' ⟨rfl, hb'⟩; rw [HS.out]; simp only [RV]; have x0 := cell_keep hb' d0; have x1 := cell_keep hb' d1; have x2 := (hb'.frozen (p := ⟨g, T a * 2, none⟩) hg3).trans e3; have x3 := (hb'.frozen (p := ⟨g, T a * 2 + 1, none⟩) hg3).trans e4; have x4 := Nat.lt_of_lt_of_le hg3 hb'.size; have x5 : RRow w' g o := (hb'.block g hg3).trans HRO3.out; have x6 : Below w.heap.size w w' := (by first | exact (Below.drew HBZ.out).trans (hb'.mono HBZ.out.size) | exact HBZ.out.trans (hb'.mono HBZ.out.size)))
          all_goals
            go_wp2_with fail
            go_meet
            exact ⟨rfl, RRow.set x5 (by omega) p' q', (x6.setCell (by first | (simp; done) | (simp; omega)) _).setCell (by first | (simp; done) | (simp; omega)) _⟩
        case rest =>
          obtain ⟨rfl, hset, hbf⟩ := hcut
          have HSET := Lib.hid hset
          have HBF := Lib.hid hbf
          clear hset hbf d0 d1 e3 e4
          rcases HSE.out with ⟨rfl, hpq⟩ | rfl
          · have hacc := (acc_go HCE.out HR.out HS.out).symm.trans HACC2.out
            have HAN := Lib.hid hacc
            have HPQ := Lib.hid hpq
            clear hacc hpq
            go_wp2_with fail
            go_roundw
            case rel => exact ⟨k + 1, _, by simp, hlt, by rw [List.length_set]; exact ho, fun r hr => (List.mem_or_eq_of_mem_set hr).elim (HOK.out r) (fun e => e ▸ HPQ.out), HSET.out, HBF.out, HAN.out⟩
            case measure => simp only [intOf]; exact meas_lt hlt
          · have hnone := HACC2.out.symm.trans (acc_far HCE.out HR.out HS.out (by decide))
            have HN := Lib.hid hnone
            clear hnone
            go_wp2_with fail
            go_ret2
            exact ⟨HBF.out, .inr ⟨HN.out, rfl⟩⟩
      · have hnone : res = none := by rw [← HACC2.out]; exact acc_err (by rw [hcc]; decide)
        have HCE := Lib.hid hcc
        have HN := Lib.hid hnone
        clear hcc hnone
        have HRO0 := HRO
        go_wp2_with fail
        refine (HTG.out _ (by repeat (first | exact Below.refl _ _ | assumption | refine below_drewN ?_ _ | refine Below.setCell ?_ (by first | (simp; done) | (simp; omega)) _ | refine Below.alloc ?_ (by first | (simp; done) | (simp; omega) | omega) _ | refine Below.drew ?_ | refine Below.trans ?_ (Below.mono (by assumption) (by first | (simp; done) | (simp; omega) | omega))))).mono ?_
        rintro e w1 ⟨rfl, hb1⟩
        have hz1 := hb1.size
        (try simp at hz1)
        have bb1 : Below wr.heap.size wr w1 := (by repeat (first | exact Below.refl _ _ | assumption | refine below_drewN ?_ _ | refine Below.setCell ?_ (by first | (simp; done) | (simp; omega)) _ | refine Below.alloc ?_ (by first | (simp; done) | (simp; omega) | omega) _ | refine Below.drew ?_ | refine Below.trans ?_ (Below.mono (by assumption) (by first | (simp; done) | (simp; omega) | omega))))
        have be1 : Below wr.heap.size wr w1 := bb1
        have c1_a_0 : w1.cell? ⟨wr.heap.size, 0, none⟩ = some (.int .i64 a.1) := cell_keep hb1 (by go_simp)
        have c1_a_1 : w1.cell? ⟨wr.heap.size, 1, none⟩ = some (.int .i64 a.2.1) := cell_keep hb1 (by go_simp)
        have c1_a_2 : w1.cell? ⟨wr.heap.size, 2, none⟩ = some (.int .i64 a.2.2) := cell_keep hb1 (by go_simp)
        have l1_a : wr.heap.size < w1.heap.size := by omega
        have m1_a : wr.heap.size < w1.heap.size + 1 := by omega
        have HRO1 := Lib.hid (HRO0.out.below bb1)
        have BE1 := Lib.hid be1
        clear be1 bb1 hb1 HRO0
        go_wp2_with fail
        refine (HCV.out _ BE1.out).mono ?_
        rintro e w2 ⟨rfl, hb2⟩
        rw [HCE.out]
        simp only [RV]
        have hz2 := hb2.size
        (try simp at hz2)
        have bb2 : Below w1.heap.size w1 w2 := (by repeat (first | exact Below.refl _ _ | assumption | refine below_drewN ?_ _ | refine Below.setCell ?_ (by first | (simp; done) | (simp; omega)) _ | refine Below.alloc ?_ (by first | (simp; done) | (simp; omega) | omega) _ | refine Below.drew ?_ | refine Below.trans ?_ (Below.mono (by assumption) (by first | (simp; done) | (simp; omega) | omega))))
        have be2 : Below wr.heap.size wr w2 := BE1.out.trans (bb2.mono BE1.out.size)
        have c2_a_0 : w2.cell? ⟨wr.heap.size, 0, none⟩ = some (.int .i64 a.1) := cell_keep bb2 c1_a_0
        have c2_a_1 : w2.cell? ⟨wr.heap.size, 1, none⟩ = some (.int .i64 a.2.1) := cell_keep bb2 c1_a_1
        have c2_a_2 : w2.cell? ⟨wr.heap.size, 2, none⟩ = some (.int .i64 a.2.2) := cell_keep bb2 c1_a_2
        have l2_a : wr.heap.size < w2.heap.size := by omega
        have m2_a : wr.heap.size < w2.heap.size + 1 := by omega
        have HRO2 := Lib.hid (HRO1.out.below bb2)
        have BE2 := Lib.hid be2
        clear be2 bb2 hb2 BE1 c1_a_0 c1_a_1 c1_a_2 l1_a m1_a HRO1
        go_wp2_with fail
        go_ret2
        exact ⟨by have q := HBW.out.trans (BE2.out.mono HBW.out.size); repeat (first | exact q | refine Below.alloc ?_ (by first | omega | (simp; omega)) _), .inr ⟨HN.out, rfl⟩⟩
    · obtain rfl : k = l.length := by omega
      have hres : res = some o := by rw [← HACC.out, List.drop_eq_nil_of_le (Nat.le_refl _)]; rfl
      have HN := Lib.hid hres
      clear hres
      go_wp2_with fail
      go_ret2
      exact ⟨HBW.out, .inl ⟨o, g, HN.out, rfl, hgw, HRO.out⟩⟩
end Go.Proofs.Ytpdknjbhnelidaa

/- The fixed examples. -/
import Derived.Test.YtpdknjbhnelidaaQtP
namespace Go.Proofs.Ytpdknjbhnelidaa
open Go.RowKit

/-- the example's table; b: the base of its last unit -/
def exT (b : Int) : List Qn.Un := [⟨[116], 1, 0, (1, 1)⟩, ⟨[107, 103], 1, 0, (1, 1000)⟩, ⟨[69, 85, 82], 2, 2, (1, 1)⟩, ⟨[99, 116], 2, b, (1, 100)⟩]
theorem ex_good (b : Int) : Qn.GoodU (exT b) 0 ⟨[116], 1, 0, (1, 1)⟩ ∧ Qn.GoodU (exT b) 1 ⟨[107, 103], 1, 0, (1, 1000)⟩ ∧ Qn.GoodU (exT b) 2 ⟨[69, 85, 82], 2, 2, (1, 1)⟩ := by
  refine ⟨⟨by decide, by decide, by simp [exT], .inl rfl, ?_, by decide, by simp [exT], ⟨_, rfl, rfl, rfl⟩, fun _ => rfl⟩, ⟨by decide, by decide, by simp [exT], .inl rfl, ?_, by decide, by simp [exT], ⟨_, rfl, rfl, rfl⟩, fun h => by simp at h⟩,
    ⟨by decide, by decide, by simp [exT], .inr rfl, ?_, by decide, by simp [exT], ⟨_, rfl, rfl, rfl⟩, fun _ => rfl⟩⟩ <;> (unfold Qn.Fac Qn.RO; decide)
theorem ex_last : Qn.GoodU (exT 2) 3 ⟨[99, 116], 2, 2, (1, 100)⟩ := by
  refine ⟨by decide, by decide, by simp [exT], .inr rfl, ?_, by decide, by simp [exT], ⟨_, rfl, rfl, rfl⟩, fun h => by simp at h⟩
  unfold Qn.Fac Qn.RO
  decide
theorem ex_bad : ¬ Qn.GoodU (exT 0) 3 ⟨[99, 116], 2, 0, (1, 100)⟩ := by
  rintro ⟨_, _, _, _, _, _, _, ⟨b, h, _, h3⟩, _⟩
  cases h
  cases h3
theorem ex_all : Qn.AllGood (exT 2) := by
  obtain ⟨h0, h1, h2⟩ := ex_good 2
  intro i u hu
  match i, hu with
  | 0, hu => cases hu; exact h0
  | 1, hu => cases hu; exact h1
  | 2, hu => cases hu; exact h2
  | 3, hu => cases hu; exact ex_last
  | i + 4, hu => simp [exT] at hu
theorem ex_valid : Qn.validS (exT 2) = (-1, true) := Qn.valid_yes ex_all
theorem ex_invalid : Qn.validS (exT 0) = (3, false) := by
  obtain ⟨h0, h1, h2⟩ := ex_good 0
  show Qn.firstBad (exT 0) 0 (exT 0) = _
  exact (firstBad_early h0).trans ((firstBad_early h1).trans ((firstBad_early h2).trans (firstBad_stop ex_bad)))
theorem ex_may (i : Int) (r : Qn.R) (h0 : 0 ≤ i) (h1 : i < 4) (hr : Qn.RO r) : Qn.May (exT 2) (i, r) := ⟨⟨h0, h1⟩, hr⟩
theorem ex_in (i : Int) (h0 : 0 ≤ i) (h1 : i < 4) : Qn.In (exT 2) i := ⟨h0, h1⟩
theorem ex_c1 : Qn.convertS (exT 2) (1, (500, 1)) 0 = (0, (1, 2), 0) :=
  Qn.convert_of ex_all (ex_may 1 _ (by decide) (by decide) (by decide)) (ex_in 0 (by decide) (by decide)) rfl (by decide)
theorem ex_c2 : Qn.convertS (exT 2) (0, (1, 1)) 2 = (0, (0, 0), 11) := by
  unfold Qn.convertS
  rw [if_pos ⟨ex_all, ex_may 0 _ (by decide) (by decide) (by decide), ex_in 2 (by decide) (by decide)⟩, if_neg (by decide)]
theorem ex_c3 : Qn.convertS (exT 2) (4, (1, 1)) 2 = (0, (0, 0), 1) := by
  unfold Qn.convertS
  rw [if_neg]
  rintro ⟨_, ⟨⟨_, h⟩, _⟩, _⟩
  exact absurd h (by decide)
theorem ex_mays : ∀ a ∈ ([(2, (1, 1)), (3, (5, 1))] : List Qn.Am), Qn.May (exT 2) a := by
  intro a ha
  rcases (by simpa using ha : a = _ ∨ a = _) with rfl | rfl
  · exact ex_may 2 _ (by decide) (by decide) (by decide)
  · exact ex_may 3 _ (by decide) (by decide) (by decide)
theorem ex_s : Qn.sumS (exT 2) [(2, (1, 1)), (3, (5, 1))] 3 = (3, (105, 1), 0) :=
  Qn.sum_of ex_all ex_mays (ex_in 3 (by decide) (by decide)) (by decide) (by decide)
theorem ex_mays2 : ∀ a ∈ ([(0, (1, 1)), (1, (5, 1)), (3, (7, 1))] : List Qn.Am), Qn.May (exT 2) a := by
  intro a ha
  rcases (by simpa using ha : a = _ ∨ a = _ ∨ a = _) with rfl | rfl | rfl
  · exact ex_may 0 _ (by decide) (by decide) (by decide)
  · exact ex_may 1 _ (by decide) (by decide) (by decide)
  · exact ex_may 3 _ (by decide) (by decide) (by decide)
def exB : List Qn.R := [(201, 200), (0, 1), (7, 100), (0, 1)]
theorem ex_b : Qn.basketS (exT 2) [(0, (1, 1)), (1, (5, 1)), (3, (7, 1))] = (some exB, 0) := by
  have h : Qn.bask (Qn.zeros (exT 2).length) (Qn.bvf (exT 2) [(0, (1, 1)), (1, (5, 1)), (3, (7, 1))]) = some exB := by decide
  unfold Qn.basketS
  rw [if_pos ⟨ex_all, ex_mays2⟩, h]
theorem ex_cov : covB exB exB = true := by decide
theorem ex_nocov : covB exB (exB.take 3) = false := by decide
theorem ex_64 : ∀ r ∈ exB, B64 r.1 := by decide
/-- the example's table in memory -/
def TRow (w : World) (g : Nat) (b : Int) : Prop := w.heap[g]? = some (.cells (exCells b) 44 (0, 0))
theorem TRow.below {w w' : World} {g : Nat} {b : Int} (h : TRow w g b) (hb : Below w.heap.size w w') : TRow w' g b :=
  (hb.block g (Array.getElem?_eq_some_iff.1 h).1).trans h
theorem TRow.tab {w : World} {g : Nat} {b : Int} (h : TRow w g b) : Tab w (some ⟨g, 0, none⟩) (exT b) := by
  unfold TRow at h
  refine ⟨by unfold exT B64; simp, .inr ⟨g, 0, rfl, fun j u hu => ?_⟩⟩
  match j, hu with
  | 0, hu => cases hu; refine ⟨?_, ?_, ?_, ?_, ?_⟩ <;> simp [World.cell?, h, exCells]
  | 1, hu => cases hu; refine ⟨?_, ?_, ?_, ?_, ?_⟩ <;> simp [World.cell?, h, exCells]
  | 2, hu => cases hu; refine ⟨?_, ?_, ?_, ?_, ?_⟩ <;> simp [World.cell?, h, exCells]
  | 3, hu => cases hu; refine ⟨?_, ?_, ?_, ?_, ?_⟩ <;> simp [World.cell?, h, exCells]
  | j + 4, hu => simp [exT] at hu
theorem TRow.spot {w : World} {g : Nat} {b : Int} (h : TRow w g b) : w.cell? ⟨g, 17, none⟩ = some (.int .i64 b) ∧ w.frozen? ⟨g, 17, none⟩ = false := by
  unfold TRow at h
  exact ⟨by simp [World.cell?, h, exCells], by simp [World.frozen?, h]⟩
theorem TRow.set {w : World} {g : Nat} {b c : Int} (h : TRow w g b) : TRow (w.setCell ⟨g, 17, none⟩ (.int .i64 c)) g c := by
  unfold TRow
  rw [setCell_row h]
  rfl
theorem RRow.rats {w : World} {g : Nat} {l : List Qn.R} (h : RRow w g l) (h64 : ∀ r ∈ l, B64 r.1) : Rats w (some ⟨g, 0, none⟩) l :=
  ⟨h64, .inr ⟨g, 0, rfl, fun j r hr => by have := h.get hr; rw [Nat.zero_add]; exact ⟨this.1, this.2.1⟩⟩⟩
theorem Rats.take {w : World} {p : Option Addr} {l : List Qn.R} (h : Rats w p l) (n : Nat) : Rats w p (l.take n) := by
  obtain ⟨h1, h2⟩ := h
  refine ⟨fun u hu => h1 u (List.mem_of_mem_take hu), ?_⟩
  rcases h2 with rfl | ⟨b, off, hp, h⟩
  · exact .inl (by simp)
  · refine .inr ⟨b, off, hp, fun j u hu => h j u ?_⟩
    rw [List.getElem?_take] at hu
    split at hu
    · exact hu
    · cases hu
theorem amts2 {w : World} {b : Nat} {a1 a2 : Qn.Am} (h1 : B64 a1.2.1) (h2 : B64 a2.2.1) (c1 : ACell w b 0 a1) (c2 : ACell w b 3 a2) : Amts w (some ⟨b, 0, none⟩) [a1, a2] := by
  refine ⟨by simpa using ⟨h1, h2⟩, .inr ⟨b, 0, rfl, fun j a ha => ?_⟩⟩
  match j, ha with
  | 0, ha => cases ha; exact c1
  | 1, ha => cases ha; exact c2
  | j + 2, ha => simp at ha
theorem amts3 {w : World} {b : Nat} {a1 a2 a3 : Qn.Am} (h1 : B64 a1.2.1) (h2 : B64 a2.2.1) (h3 : B64 a3.2.1) (c1 : ACell w b 0 a1) (c2 : ACell w b 3 a2) (c3 : ACell w b 6 a3) : Amts w (some ⟨b, 0, none⟩) [a1, a2, a3] := by
  refine ⟨by simpa using ⟨h1, h2, h3⟩, .inr ⟨b, 0, rfl, fun j a ha => ?_⟩⟩
  match j, ha with
  | 0, ha => cases ha; exact c1
  | 1, ha => cases ha; exact c2
  | 2, ha => cases ha; exact c3
  | j + 3, ha => simp at ha
set_option maxRecDepth 100000 in
set_option maxHeartbeats 3200000 in
theorem head_any (w : World)  :
    Calls Try.prog 4 #[] w fun e w' => e = .returned (.bool true) ∧ Below w.heap.size w w' := by
  go_enter Try.func4, Try.ntmps4
  go_wp2_with fail
  refine (table_calls _).mono ?_
  rintro e w1 ⟨g, rfl, hg, hrow, hb1⟩
  have hz1 := hb1.size
  (try simp at hz1)
  have bb1 : Below w.heap.size w w1 := (by repeat (first | exact Below.refl _ _ | assumption | refine below_drewN ?_ _ | refine Below.setCell ?_ (by first | (simp; done) | (simp; omega)) _ | refine Below.alloc ?_ (by first | (simp; done) | (simp; omega) | omega) _ | refine Below.drew ?_ | refine Below.trans ?_ (Below.mono (by assumption) (by first | (simp; done) | (simp; omega) | omega))))
  have be1 : Below w.heap.size w w1 := bb1
  have HR1 := Lib.hid (show TRow w1 g 2 from hrow)
  have hgw : w.heap.size ≤ g := by omega
  have hgl1 : g < w1.heap.size := (Array.getElem?_eq_some_iff.1 hrow).1
  clear hrow hg
  have BE1 := Lib.hid be1
  clear be1 bb1 hb1
  go_wp2_with fail
  refine (qvalid_any (some ⟨g, 0, none⟩) 4 (exT 2) _ ((HR1.out.below (by repeat (first | exact Below.refl _ _ | assumption | refine below_drewN ?_ _ | refine Below.setCell ?_ (by first | (simp; done) | (simp; omega)) _ | refine Below.alloc ?_ (by first | (simp; done) | (simp; omega) | omega) _ | refine Below.drew ?_ | refine Below.trans ?_ (Below.mono (by assumption) (by first | (simp; done) | (simp; omega) | omega)))))).tab (by decide)).mono ?_
  rintro e w2 ⟨rfl, hb2⟩
  rw [ex_valid]
  simp only [RIB]
  have hz2 := hb2.size
  (try simp at hz2)
  have bb2 : Below w1.heap.size w1 w2 := (by repeat (first | exact Below.refl _ _ | assumption | refine below_drewN ?_ _ | refine Below.setCell ?_ (by first | (simp; done) | (simp; omega)) _ | refine Below.alloc ?_ (by first | (simp; done) | (simp; omega) | omega) _ | refine Below.drew ?_ | refine Below.trans ?_ (Below.mono (by assumption) (by first | (simp; done) | (simp; omega) | omega))))
  have be2 : Below w.heap.size w w2 := BE1.out.trans (bb2.mono BE1.out.size)
  have HR2 := Lib.hid (HR1.out.below bb2)
  have BE2 := Lib.hid be2
  clear be2 bb2 hb2 BE1 HR1
  go_wp2_with fail
  refine (of_any 500 1 1 _).mono ?_
  rintro e w3 ⟨rfl, hb3⟩
  have hz3 := hb3.size
  (try simp at hz3)
  have bb3 : Below w2.heap.size w2 w3 := (by repeat (first | exact Below.refl _ _ | assumption | refine below_drewN ?_ _ | refine Below.setCell ?_ (by first | (simp; done) | (simp; omega)) _ | refine Below.alloc ?_ (by first | (simp; done) | (simp; omega) | omega) _ | refine Below.drew ?_ | refine Below.trans ?_ (Below.mono (by assumption) (by first | (simp; done) | (simp; omega) | omega))))
  have be3 : Below w.heap.size w w3 := BE2.out.trans (bb3.mono BE2.out.size)
  have HR3 := Lib.hid (HR2.out.below bb3)
  have BE3 := Lib.hid be3
  clear be3 bb3 hb3 BE2 HR2
  go_wp2_with fail
  refine (conv_any (some ⟨g, 0, none⟩) 4 (exT 2) (1, (500, 1)) 0 _ ((HR3.out.below (by repeat (first | exact Below.refl _ _ | assumption | refine below_drewN ?_ _ | refine Below.setCell ?_ (by first | (simp; done) | (simp; omega)) _ | refine Below.alloc ?_ (by first | (simp; done) | (simp; omega) | omega) _ | refine Below.drew ?_ | refine Below.trans ?_ (Below.mono (by assumption) (by first | (simp; done) | (simp; omega) | omega)))))).tab (by decide) ⟨by decide, by decide⟩).mono ?_
  rintro e w4 ⟨rfl, hb4⟩
  rw [ex_c1]
  simp only [RA]
  have hz4 := hb4.size
  (try simp at hz4)
  have bb4 : Below w3.heap.size w3 w4 := (by repeat (first | exact Below.refl _ _ | assumption | refine below_drewN ?_ _ | refine Below.setCell ?_ (by first | (simp; done) | (simp; omega)) _ | refine Below.alloc ?_ (by first | (simp; done) | (simp; omega) | omega) _ | refine Below.drew ?_ | refine Below.trans ?_ (Below.mono (by assumption) (by first | (simp; done) | (simp; omega) | omega))))
  have be4 : Below w.heap.size w w4 := BE3.out.trans (bb4.mono BE3.out.size)
  have HR4 := Lib.hid (HR3.out.below bb4)
  have BE4 := Lib.hid be4
  clear be4 bb4 hb4 BE3 HR3
  go_wp2_with fail
  refine (of_any 1 1 0 _).mono ?_
  rintro e w5 ⟨rfl, hb5⟩
  have hz5 := hb5.size
  (try simp at hz5)
  have bb5 : Below w4.heap.size w4 w5 := (by repeat (first | exact Below.refl _ _ | assumption | refine below_drewN ?_ _ | refine Below.setCell ?_ (by first | (simp; done) | (simp; omega)) _ | refine Below.alloc ?_ (by first | (simp; done) | (simp; omega) | omega) _ | refine Below.drew ?_ | refine Below.trans ?_ (Below.mono (by assumption) (by first | (simp; done) | (simp; omega) | omega))))
  have be5 : Below w.heap.size w w5 := BE4.out.trans (bb5.mono BE4.out.size)
  have c5_a_0 : w5.cell? ⟨w4.heap.size, 0, none⟩ = some (.int .i64 0) := cell_keep hb5 (by go_simp)
  have c5_a_1 : w5.cell? ⟨w4.heap.size, 1, none⟩ = some (.int .i64 1) := cell_keep hb5 (by go_simp)
  have c5_a_2 : w5.cell? ⟨w4.heap.size, 2, none⟩ = some (.int .i64 2) := cell_keep hb5 (by go_simp)
  have l5_a : w4.heap.size < w5.heap.size := by omega
  have m5_a : w4.heap.size < w5.heap.size + 1 := by omega
  have HR5 := Lib.hid (HR4.out.below bb5)
  have BE5 := Lib.hid be5
  clear be5 bb5 hb5 BE4 HR4
  go_wp2_with fail
  refine (conv_any (some ⟨g, 0, none⟩) 4 (exT 2) (0, (1, 1)) 2 _ ((HR5.out.below (by repeat (first | exact Below.refl _ _ | assumption | refine below_drewN ?_ _ | refine Below.setCell ?_ (by first | (simp; done) | (simp; omega)) _ | refine Below.alloc ?_ (by first | (simp; done) | (simp; omega) | omega) _ | refine Below.drew ?_ | refine Below.trans ?_ (Below.mono (by assumption) (by first | (simp; done) | (simp; omega) | omega)))))).tab (by decide) ⟨by decide, by decide⟩).mono ?_
  rintro e w6 ⟨rfl, hb6⟩
  rw [ex_c2]
  simp only [RA]
  have hz6 := hb6.size
  (try simp at hz6)
  have bb6 : Below w5.heap.size w5 w6 := (by repeat (first | exact Below.refl _ _ | assumption | refine below_drewN ?_ _ | refine Below.setCell ?_ (by first | (simp; done) | (simp; omega)) _ | refine Below.alloc ?_ (by first | (simp; done) | (simp; omega) | omega) _ | refine Below.drew ?_ | refine Below.trans ?_ (Below.mono (by assumption) (by first | (simp; done) | (simp; omega) | omega))))
  have be6 : Below w.heap.size w w6 := BE5.out.trans (bb6.mono BE5.out.size)
  have c6_a_0 : w6.cell? ⟨w4.heap.size, 0, none⟩ = some (.int .i64 0) := cell_keep bb6 c5_a_0
  have c6_a_1 : w6.cell? ⟨w4.heap.size, 1, none⟩ = some (.int .i64 1) := cell_keep bb6 c5_a_1
  have c6_a_2 : w6.cell? ⟨w4.heap.size, 2, none⟩ = some (.int .i64 2) := cell_keep bb6 c5_a_2
  have l6_a : w4.heap.size < w6.heap.size := by omega
  have m6_a : w4.heap.size < w6.heap.size + 1 := by omega
  have HR6 := Lib.hid (HR5.out.below bb6)
  have BE6 := Lib.hid be6
  clear be6 bb6 hb6 BE5 c5_a_0 c5_a_1 c5_a_2 l5_a m5_a HR5
  go_wp2_with fail
  refine (of_any 1 1 4 _).mono ?_
  rintro e w7 ⟨rfl, hb7⟩
  have hz7 := hb7.size
  (try simp at hz7)
  have bb7 : Below w6.heap.size w6 w7 := (by repeat (first | exact Below.refl _ _ | assumption | refine below_drewN ?_ _ | refine Below.setCell ?_ (by first | (simp; done) | (simp; omega)) _ | refine Below.alloc ?_ (by first | (simp; done) | (simp; omega) | omega) _ | refine Below.drew ?_ | refine Below.trans ?_ (Below.mono (by assumption) (by first | (simp; done) | (simp; omega) | omega))))
  have be7 : Below w.heap.size w w7 := BE6.out.trans (bb7.mono BE6.out.size)
  have c7_a_0 : w7.cell? ⟨w4.heap.size, 0, none⟩ = some (.int .i64 0) := cell_keep bb7 c6_a_0
  have c7_a_1 : w7.cell? ⟨w4.heap.size, 1, none⟩ = some (.int .i64 1) := cell_keep bb7 c6_a_1
  have c7_a_2 : w7.cell? ⟨w4.heap.size, 2, none⟩ = some (.int .i64 2) := cell_keep bb7 c6_a_2
  have l7_a : w4.heap.size < w7.heap.size := by omega
  have m7_a : w4.heap.size < w7.heap.size + 1 := by omega
  have HR7 := Lib.hid (HR6.out.below bb7)
  have BE7 := Lib.hid be7
  clear be7 bb7 hb7 BE6 c6_a_0 c6_a_1 c6_a_2 l6_a m6_a HR6
  go_wp2_with fail
  refine (conv_any (some ⟨g, 0, none⟩) 4 (exT 2) (4, (1, 1)) 2 _ ((HR7.out.below (by repeat (first | exact Below.refl _ _ | assumption | refine below_drewN ?_ _ | refine Below.setCell ?_ (by first | (simp; done) | (simp; omega)) _ | refine Below.alloc ?_ (by first | (simp; done) | (simp; omega) | omega) _ | refine Below.drew ?_ | refine Below.trans ?_ (Below.mono (by assumption) (by first | (simp; done) | (simp; omega) | omega)))))).tab (by decide) ⟨by decide, by decide⟩).mono ?_
  rintro e w8 ⟨rfl, hb8⟩
  rw [ex_c3]
  simp only [RA]
  have hz8 := hb8.size
  (try simp at hz8)
  have bb8 : Below w7.heap.size w7 w8 := (by repeat (first | exact Below.refl _ _ | assumption | refine below_drewN ?_ _ | refine Below.setCell ?_ (by first | (simp; done) | (simp; omega)) _ | refine Below.alloc ?_ (by first | (simp; done) | (simp; omega) | omega) _ | refine Below.drew ?_ | refine Below.trans ?_ (Below.mono (by assumption) (by first | (simp; done) | (simp; omega) | omega))))
  have be8 : Below w.heap.size w w8 := BE7.out.trans (bb8.mono BE7.out.size)
  have c8_a_0 : w8.cell? ⟨w4.heap.size, 0, none⟩ = some (.int .i64 0) := cell_keep bb8 c7_a_0
  have c8_a_1 : w8.cell? ⟨w4.heap.size, 1, none⟩ = some (.int .i64 1) := cell_keep bb8 c7_a_1
  have c8_a_2 : w8.cell? ⟨w4.heap.size, 2, none⟩ = some (.int .i64 2) := cell_keep bb8 c7_a_2
  have l8_a : w4.heap.size < w8.heap.size := by omega
  have m8_a : w4.heap.size < w8.heap.size + 1 := by omega
  have HR8 := Lib.hid (HR7.out.below bb8)
  have BE8 := Lib.hid be8
  clear be8 bb8 hb8 BE7 c7_a_0 c7_a_1 c7_a_2 l7_a m7_a HR7
  go_wp2_with fail
  refine (of_any 1 1 2 _).mono ?_
  rintro e w9 ⟨rfl, hb9⟩
  have hz9 := hb9.size
  (try simp at hz9)
  have bb9 : Below w8.heap.size w8 w9 := (by repeat (first | exact Below.refl _ _ | assumption | refine below_drewN ?_ _ | refine Below.setCell ?_ (by first | (simp; done) | (simp; omega)) _ | refine Below.alloc ?_ (by first | (simp; done) | (simp; omega) | omega) _ | refine Below.drew ?_ | refine Below.trans ?_ (Below.mono (by assumption) (by first | (simp; done) | (simp; omega) | omega))))
  have be9 : Below w.heap.size w w9 := BE8.out.trans (bb9.mono BE8.out.size)
  have c9_a_0 : w9.cell? ⟨w4.heap.size, 0, none⟩ = some (.int .i64 0) := cell_keep bb9 c8_a_0
  have c9_a_1 : w9.cell? ⟨w4.heap.size, 1, none⟩ = some (.int .i64 1) := cell_keep bb9 c8_a_1
  have c9_a_2 : w9.cell? ⟨w4.heap.size, 2, none⟩ = some (.int .i64 2) := cell_keep bb9 c8_a_2
  have l9_a : w4.heap.size < w9.heap.size := by omega
  have m9_a : w4.heap.size < w9.heap.size + 1 := by omega
  have HR9 := Lib.hid (HR8.out.below bb9)
  have BE9 := Lib.hid be9
  clear be9 bb9 hb9 BE8 c8_a_0 c8_a_1 c8_a_2 l8_a m8_a HR8
  go_wp2_with fail
  refine (of_any 5 1 3 _).mono ?_
  rintro e w10 ⟨rfl, hb10⟩
  have hz10 := hb10.size
  (try simp at hz10)
  have bb10 : Below w9.heap.size w9 w10 := (by repeat (first | exact Below.refl _ _ | assumption | refine below_drewN ?_ _ | refine Below.setCell ?_ (by first | (simp; done) | (simp; omega)) _ | refine Below.alloc ?_ (by first | (simp; done) | (simp; omega) | omega) _ | refine Below.drew ?_ | refine Below.trans ?_ (Below.mono (by assumption) (by first | (simp; done) | (simp; omega) | omega))))
  have be10 : Below w.heap.size w w10 := BE9.out.trans (bb10.mono BE9.out.size)
  have c10_a_0 : w10.cell? ⟨w4.heap.size, 0, none⟩ = some (.int .i64 0) := cell_keep bb10 c9_a_0
  have c10_a_1 : w10.cell? ⟨w4.heap.size, 1, none⟩ = some (.int .i64 1) := cell_keep bb10 c9_a_1
  have c10_a_2 : w10.cell? ⟨w4.heap.size, 2, none⟩ = some (.int .i64 2) := cell_keep bb10 c9_a_2
  have l10_a : w4.heap.size < w10.heap.size := by omega
  have m10_a : w4.heap.size < w10.heap.size + 1 := by omega
  have HR10 := Lib.hid (HR9.out.below bb10)
  have BE10 := Lib.hid be10
  clear be10 bb10 hb10 BE9 c9_a_0 c9_a_1 c9_a_2 l9_a m9_a HR9
  go_wp2_with fail
  refine (sum_any (some ⟨g, 0, none⟩) (some ⟨w10.heap.size, 0, none⟩) 4 2 (exT 2) [(2, (1, 1)), (3, (5, 1))] 3 _ ((HR10.out.below (by repeat (first | exact Below.refl _ _ | assumption | refine below_drewN ?_ _ | refine Below.setCell ?_ (by first | (simp; done) | (simp; omega)) _ | refine Below.alloc ?_ (by first | (simp; done) | (simp; omega) | omega) _ | refine Below.drew ?_ | refine Below.trans ?_ (Below.mono (by assumption) (by first | (simp; done) | (simp; omega) | omega)))))).tab (by decide) (amts2 (by decide) (by decide) ⟨by go_simp, by go_simp, by go_simp⟩ ⟨by go_simp, by go_simp, by go_simp⟩) (by decide)).mono ?_
  rintro e w11 ⟨rfl, hb11⟩
  rw [ex_s]
  simp only [RA]
  have hz11 := hb11.size
  (try simp at hz11)
  have bb11 : Below w10.heap.size w10 w11 := (by repeat (first | exact Below.refl _ _ | assumption | refine below_drewN ?_ _ | refine Below.setCell ?_ (by first | (simp; done) | (simp; omega)) _ | refine Below.alloc ?_ (by first | (simp; done) | (simp; omega) | omega) _ | refine Below.drew ?_ | refine Below.trans ?_ (Below.mono (by assumption) (by first | (simp; done) | (simp; omega) | omega))))
  have be11 : Below w.heap.size w w11 := BE10.out.trans (bb11.mono BE10.out.size)
  have c11_a_0 : w11.cell? ⟨w4.heap.size, 0, none⟩ = some (.int .i64 0) := cell_keep bb11 c10_a_0
  have c11_a_1 : w11.cell? ⟨w4.heap.size, 1, none⟩ = some (.int .i64 1) := cell_keep bb11 c10_a_1
  have c11_a_2 : w11.cell? ⟨w4.heap.size, 2, none⟩ = some (.int .i64 2) := cell_keep bb11 c10_a_2
  have l11_a : w4.heap.size < w11.heap.size := by omega
  have m11_a : w4.heap.size < w11.heap.size + 1 := by omega
  have HR11 := Lib.hid (HR10.out.below bb11)
  have BE11 := Lib.hid be11
  clear be11 bb11 hb11 BE10 c10_a_0 c10_a_1 c10_a_2 l10_a m10_a HR10
  go_wp2_with fail
  refine (of_any 1 1 0 _).mono ?_
  rintro e w12 ⟨rfl, hb12⟩
  have hz12 := hb12.size
  (try simp at hz12)
  have bb12 : Below w11.heap.size w11 w12 := (by repeat (first | exact Below.refl _ _ | assumption | refine below_drewN ?_ _ | refine Below.setCell ?_ (by first | (simp; done) | (simp; omega)) _ | refine Below.alloc ?_ (by first | (simp; done) | (simp; omega) | omega) _ | refine Below.drew ?_ | refine Below.trans ?_ (Below.mono (by assumption) (by first | (simp; done) | (simp; omega) | omega))))
  have be12 : Below w.heap.size w w12 := BE11.out.trans (bb12.mono BE11.out.size)
  have c12_a_0 : w12.cell? ⟨w4.heap.size, 0, none⟩ = some (.int .i64 0) := cell_keep bb12 c11_a_0
  have c12_a_1 : w12.cell? ⟨w4.heap.size, 1, none⟩ = some (.int .i64 1) := cell_keep bb12 c11_a_1
  have c12_a_2 : w12.cell? ⟨w4.heap.size, 2, none⟩ = some (.int .i64 2) := cell_keep bb12 c11_a_2
  have l12_a : w4.heap.size < w12.heap.size := by omega
  have m12_a : w4.heap.size < w12.heap.size + 1 := by omega
  have c12_s_0 : w12.cell? ⟨w11.heap.size, 0, none⟩ = some (.int .i64 3) := cell_keep hb12 (by go_simp)
  have c12_s_1 : w12.cell? ⟨w11.heap.size, 1, none⟩ = some (.int .i64 105) := cell_keep hb12 (by go_simp)
  have c12_s_2 : w12.cell? ⟨w11.heap.size, 2, none⟩ = some (.int .i64 1) := cell_keep hb12 (by go_simp)
  have l12_s : w11.heap.size < w12.heap.size := by omega
  have m12_s : w11.heap.size < w12.heap.size + 1 := by omega
  have HR12 := Lib.hid (HR11.out.below bb12)
  have BE12 := Lib.hid be12
  clear be12 bb12 hb12 BE11 c11_a_0 c11_a_1 c11_a_2 l11_a m11_a HR11
  go_wp2_with fail
  refine (of_any 5 1 1 _).mono ?_
  rintro e w13 ⟨rfl, hb13⟩
  have hz13 := hb13.size
  (try simp at hz13)
  have bb13 : Below w12.heap.size w12 w13 := (by repeat (first | exact Below.refl _ _ | assumption | refine below_drewN ?_ _ | refine Below.setCell ?_ (by first | (simp; done) | (simp; omega)) _ | refine Below.alloc ?_ (by first | (simp; done) | (simp; omega) | omega) _ | refine Below.drew ?_ | refine Below.trans ?_ (Below.mono (by assumption) (by first | (simp; done) | (simp; omega) | omega))))
  have be13 : Below w.heap.size w w13 := BE12.out.trans (bb13.mono BE12.out.size)
  have c13_a_0 : w13.cell? ⟨w4.heap.size, 0, none⟩ = some (.int .i64 0) := cell_keep bb13 c12_a_0
  have c13_a_1 : w13.cell? ⟨w4.heap.size, 1, none⟩ = some (.int .i64 1) := cell_keep bb13 c12_a_1
  have c13_a_2 : w13.cell? ⟨w4.heap.size, 2, none⟩ = some (.int .i64 2) := cell_keep bb13 c12_a_2
  have l13_a : w4.heap.size < w13.heap.size := by omega
  have m13_a : w4.heap.size < w13.heap.size + 1 := by omega
  have c13_s_0 : w13.cell? ⟨w11.heap.size, 0, none⟩ = some (.int .i64 3) := cell_keep bb13 c12_s_0
  have c13_s_1 : w13.cell? ⟨w11.heap.size, 1, none⟩ = some (.int .i64 105) := cell_keep bb13 c12_s_1
  have c13_s_2 : w13.cell? ⟨w11.heap.size, 2, none⟩ = some (.int .i64 1) := cell_keep bb13 c12_s_2
  have l13_s : w11.heap.size < w13.heap.size := by omega
  have m13_s : w11.heap.size < w13.heap.size + 1 := by omega
  have HR13 := Lib.hid (HR12.out.below bb13)
  have BE13 := Lib.hid be13
  clear be13 bb13 hb13 BE12 c12_a_0 c12_a_1 c12_a_2 l12_a m12_a c12_s_0 c12_s_1 c12_s_2 l12_s m12_s HR12
  go_wp2_with fail
  refine (of_any 7 1 3 _).mono ?_
  rintro e w14 ⟨rfl, hb14⟩
  have hz14 := hb14.size
  (try simp at hz14)
  have bb14 : Below w13.heap.size w13 w14 := (by repeat (first | exact Below.refl _ _ | assumption | refine below_drewN ?_ _ | refine Below.setCell ?_ (by first | (simp; done) | (simp; omega)) _ | refine Below.alloc ?_ (by first | (simp; done) | (simp; omega) | omega) _ | refine Below.drew ?_ | refine Below.trans ?_ (Below.mono (by assumption) (by first | (simp; done) | (simp; omega) | omega))))
  have be14 : Below w.heap.size w w14 := BE13.out.trans (bb14.mono BE13.out.size)
  have c14_a_0 : w14.cell? ⟨w4.heap.size, 0, none⟩ = some (.int .i64 0) := cell_keep bb14 c13_a_0
  have c14_a_1 : w14.cell? ⟨w4.heap.size, 1, none⟩ = some (.int .i64 1) := cell_keep bb14 c13_a_1
  have c14_a_2 : w14.cell? ⟨w4.heap.size, 2, none⟩ = some (.int .i64 2) := cell_keep bb14 c13_a_2
  have l14_a : w4.heap.size < w14.heap.size := by omega
  have m14_a : w4.heap.size < w14.heap.size + 1 := by omega
  have c14_s_0 : w14.cell? ⟨w11.heap.size, 0, none⟩ = some (.int .i64 3) := cell_keep bb14 c13_s_0
  have c14_s_1 : w14.cell? ⟨w11.heap.size, 1, none⟩ = some (.int .i64 105) := cell_keep bb14 c13_s_1
  have c14_s_2 : w14.cell? ⟨w11.heap.size, 2, none⟩ = some (.int .i64 1) := cell_keep bb14 c13_s_2
  have l14_s : w11.heap.size < w14.heap.size := by omega
  have m14_s : w11.heap.size < w14.heap.size + 1 := by omega
  have HR14 := Lib.hid (HR13.out.below bb14)
  have BE14 := Lib.hid be14
  clear be14 bb14 hb14 BE13 c13_a_0 c13_a_1 c13_a_2 l13_a m13_a c13_s_0 c13_s_1 c13_s_2 l13_s m13_s HR13
  go_wp2_with fail
  refine (basket_any (some ⟨g, 0, none⟩) (some ⟨w14.heap.size, 0, none⟩) 4 3 (exT 2) [(0, (1, 1)), (1, (5, 1)), (3, (7, 1))] _ ((HR14.out.below (by repeat (first | exact Below.refl _ _ | assumption | refine below_drewN ?_ _ | refine Below.setCell ?_ (by first | (simp; done) | (simp; omega)) _ | refine Below.alloc ?_ (by first | (simp; done) | (simp; omega) | omega) _ | refine Below.drew ?_ | refine Below.trans ?_ (Below.mono (by assumption) (by first | (simp; done) | (simp; omega) | omega)))))).tab (by decide) (amts3 (by decide) (by decide) (by decide) ⟨by go_simp, by go_simp, by go_simp⟩ ⟨by go_simp, by go_simp, by go_simp⟩ ⟨by go_simp, by go_simp, by go_simp⟩) (by decide)).mono ?_
  rintro e w15 ⟨hb15, hpost⟩
  have hz15 := hb15.size
  (try simp at hz15)
  have bb15 : Below w14.heap.size w14 w15 := (by repeat (first | exact Below.refl _ _ | assumption | refine below_drewN ?_ _ | refine Below.setCell ?_ (by first | (simp; done) | (simp; omega)) _ | refine Below.alloc ?_ (by first | (simp; done) | (simp; omega) | omega) _ | refine Below.drew ?_ | refine Below.trans ?_ (Below.mono (by assumption) (by first | (simp; done) | (simp; omega) | omega))))
  have be15 : Below w.heap.size w w15 := BE14.out.trans (bb15.mono BE14.out.size)
  have c15_a_0 : w15.cell? ⟨w4.heap.size, 0, none⟩ = some (.int .i64 0) := cell_keep bb15 c14_a_0
  have c15_a_1 : w15.cell? ⟨w4.heap.size, 1, none⟩ = some (.int .i64 1) := cell_keep bb15 c14_a_1
  have c15_a_2 : w15.cell? ⟨w4.heap.size, 2, none⟩ = some (.int .i64 2) := cell_keep bb15 c14_a_2
  have l15_a : w4.heap.size < w15.heap.size := by omega
  have m15_a : w4.heap.size < w15.heap.size + 1 := by omega
  have c15_s_0 : w15.cell? ⟨w11.heap.size, 0, none⟩ = some (.int .i64 3) := cell_keep bb15 c14_s_0
  have c15_s_1 : w15.cell? ⟨w11.heap.size, 1, none⟩ = some (.int .i64 105) := cell_keep bb15 c14_s_1
  have c15_s_2 : w15.cell? ⟨w11.heap.size, 2, none⟩ = some (.int .i64 1) := cell_keep bb15 c14_s_2
  have l15_s : w11.heap.size < w15.heap.size := by omega
  have m15_s : w11.heap.size < w15.heap.size + 1 := by omega
  have HR15 := Lib.hid (HR14.out.below bb15)
  obtain ⟨o, gb, ho, rfl, hgb, hrow⟩ := hpost.resolve_right (fun h => by obtain ⟨c, h, _⟩ := h; rw [ex_b] at h; cases h)
  rw [ex_b] at ho
  cases ho
  have HO15 := Lib.hid hrow
  have hne : g ≠ gb := by (have q := hgb; simp at q; omega)
  clear hpost hrow hgb
  simp only [show (exT 2).length = 4 from rfl]
  have BE15 := Lib.hid be15
  clear be15 bb15 hb15 BE14 c14_a_0 c14_a_1 c14_a_2 l14_a m14_a c14_s_0 c14_s_1 c14_s_2 l14_s m14_s HR14
  have hsp := HR15.out.spot
  obtain ⟨sp0, sp1⟩ := hsp
  have hgk : g < w15.heap.size := (Array.getElem?_eq_some_iff.1 HR15.out).1
  go_wp2_with fail
  obtain ⟨w16, hw16⟩ : ∃ W, W = w15.setCell ⟨g, 17, none⟩ (.int .i64 0) := ⟨_, rfl⟩
  rw [← hw16]
  have be16 : Below w.heap.size w w16 := by rw [hw16]; exact BE15.out.setCell hgw _
  have HR16 := Lib.hid (show TRow w16 g 0 by rw [hw16]; exact HR15.out.set)
  have HO16 := Lib.hid (show RRow w16 gb exB by rw [hw16]; exact (setCell_apart hne).trans HO15.out)
  have hz16 : w15.heap.size ≤ w16.heap.size := by rw [hw16, size_setCell]; exact Nat.le_refl _
  have c16_a_0 : w16.cell? ⟨w4.heap.size, 0, none⟩ = some (.int .i64 0) := by rw [hw16, World.cell?_setCell_far _ _ _ _ (show g ≠ w4.heap.size by omega)]; exact c15_a_0
  have c16_a_1 : w16.cell? ⟨w4.heap.size, 1, none⟩ = some (.int .i64 1) := by rw [hw16, World.cell?_setCell_far _ _ _ _ (show g ≠ w4.heap.size by omega)]; exact c15_a_1
  have c16_a_2 : w16.cell? ⟨w4.heap.size, 2, none⟩ = some (.int .i64 2) := by rw [hw16, World.cell?_setCell_far _ _ _ _ (show g ≠ w4.heap.size by omega)]; exact c15_a_2
  have l16_a : w4.heap.size < w16.heap.size := by omega
  have m16_a : w4.heap.size < w16.heap.size + 1 := by omega
  have c16_s_0 : w16.cell? ⟨w11.heap.size, 0, none⟩ = some (.int .i64 3) := by rw [hw16, World.cell?_setCell_far _ _ _ _ (show g ≠ w11.heap.size by omega)]; exact c15_s_0
  have c16_s_1 : w16.cell? ⟨w11.heap.size, 1, none⟩ = some (.int .i64 105) := by rw [hw16, World.cell?_setCell_far _ _ _ _ (show g ≠ w11.heap.size by omega)]; exact c15_s_1
  have c16_s_2 : w16.cell? ⟨w11.heap.size, 2, none⟩ = some (.int .i64 1) := by rw [hw16, World.cell?_setCell_far _ _ _ _ (show g ≠ w11.heap.size by omega)]; exact c15_s_2
  have l16_s : w11.heap.size < w16.heap.size := by omega
  have m16_s : w11.heap.size < w16.heap.size + 1 := by omega
  have BE16 := Lib.hid be16
  clear be16 hw16 BE15 HR15 HO15 sp0 sp1 c15_a_0 c15_a_1 c15_a_2 l15_a m15_a c15_s_0 c15_s_1 c15_s_2 l15_s m15_s
  skip
  refine (qvalid_any (some ⟨g, 0, none⟩) 4 (exT 0) _ (HR16.out.tab) (by decide)).mono ?_
  rintro e w17 ⟨rfl, hb17⟩
  rw [ex_invalid]
  simp only [RIB]
  have hz17 := hb17.size
  (try simp at hz17)
  have bb17 : Below w16.heap.size w16 w17 := (by repeat (first | exact Below.refl _ _ | assumption | refine below_drewN ?_ _ | refine Below.setCell ?_ (by first | (simp; done) | (simp; omega)) _ | refine Below.alloc ?_ (by first | (simp; done) | (simp; omega) | omega) _ | refine Below.drew ?_ | refine Below.trans ?_ (Below.mono (by assumption) (by first | (simp; done) | (simp; omega) | omega))))
  have be17 : Below w.heap.size w w17 := BE16.out.trans (bb17.mono BE16.out.size)
  have c17_a_0 : w17.cell? ⟨w4.heap.size, 0, none⟩ = some (.int .i64 0) := cell_keep bb17 c16_a_0
  have c17_a_1 : w17.cell? ⟨w4.heap.size, 1, none⟩ = some (.int .i64 1) := cell_keep bb17 c16_a_1
  have c17_a_2 : w17.cell? ⟨w4.heap.size, 2, none⟩ = some (.int .i64 2) := cell_keep bb17 c16_a_2
  have l17_a : w4.heap.size < w17.heap.size := by omega
  have m17_a : w4.heap.size < w17.heap.size + 1 := by omega
  have c17_s_0 : w17.cell? ⟨w11.heap.size, 0, none⟩ = some (.int .i64 3) := cell_keep bb17 c16_s_0
  have c17_s_1 : w17.cell? ⟨w11.heap.size, 1, none⟩ = some (.int .i64 105) := cell_keep bb17 c16_s_1
  have c17_s_2 : w17.cell? ⟨w11.heap.size, 2, none⟩ = some (.int .i64 1) := cell_keep bb17 c16_s_2
  have l17_s : w11.heap.size < w17.heap.size := by omega
  have m17_s : w11.heap.size < w17.heap.size + 1 := by omega
  have HR17 := Lib.hid (HR16.out.below bb17)
  have HO17 := Lib.hid (HO16.out.below bb17)
  have BE17 := Lib.hid be17
  clear be17 bb17 hb17 BE16 c16_a_0 c16_a_1 c16_a_2 l16_a m16_a c16_s_0 c16_s_1 c16_s_2 l16_s m16_s HR16 HO16
  go_wp2_with fail
  refine wp_region_held_drew (S := (fun w' => Below w17.heap.size w17 w' ∧ ∀ b o, b < w17.heap.size → w'.cell? ⟨b, o, none⟩ = w17.cell? ⟨b, o, none⟩)) (by kernel_rfl) (holdS (Below.drew (Below.refl _ _))) (fun hHeld => ?_)
  refine wpAnyH_take (i := 0) (v := ?_) rfl (by kernel_rfl) (by kernel_rfl) (by kernel_rfl) (fun _ _ _ h => h) (Or.inl ⟨by rfl, ?hy⟩) (by assumption) ?_
  case hy =>
    intro W hSw
    (try dsimp only at hSw)
    first | (go_simp; done) | (go_simp; with_reducible rfl)
  (try simp only [List.getElem_toArray,  List.getElem_cons_zero, Act.put, List.setIfInBounds_toArray, List.set_cons_zero, List.set_cons_succ])
  refine wpAnyH_take (i := 1) (v := ?_) rfl (by kernel_rfl) (by kernel_rfl) (by kernel_rfl) (fun _ _ _ h => h) (Or.inl ⟨by rfl, ?hy⟩) (by assumption) ?_
  case hy =>
    intro W hSw
    (try dsimp only at hSw)
    first | (go_simp; done) | (go_simp; with_reducible rfl)
  (try simp only [List.getElem_toArray, List.getElem_cons_succ,  List.getElem_cons_zero, Act.put, List.setIfInBounds_toArray, List.set_cons_zero, List.set_cons_succ])
  refine wpAnyH_take (i := 2) (v := ?_) rfl (by kernel_rfl) (by kernel_rfl) (by kernel_rfl) (fun _ _ _ h => h) (Or.inl ⟨by rfl, ?hy⟩) (by assumption) ?_
  case hy =>
    intro W hSw
    (try dsimp only at hSw)
    first | (go_simp; done) | (go_simp; with_reducible rfl)
  (try simp only [List.getElem_toArray, List.getElem_cons_succ,  List.getElem_cons_zero, Act.put, List.setIfInBounds_toArray, List.set_cons_zero, List.set_cons_succ])
  refine wpAnyH_take (i := 3) (v := ?_) rfl (by kernel_rfl) (by kernel_rfl) (by kernel_rfl) (fun _ _ _ h => h) (Or.inl ⟨by rfl, ?hy⟩) (by assumption) ?_
  case hy =>
    intro W hSw
    (try dsimp only at hSw)
    first | (go_simp; done) | (go_simp; with_reducible rfl)
  (try simp only [List.getElem_toArray, List.getElem_cons_succ,  List.getElem_cons_zero, Act.put, List.setIfInBounds_toArray, List.set_cons_zero, List.set_cons_succ])
  refine wpAnyH_take (i := 4) (v := ?_) rfl (by kernel_rfl) (by kernel_rfl) (by kernel_rfl) (fun _ _ _ h => h) (Or.inl ⟨by rfl, ?hy⟩) (by assumption) ?_
  case hy =>
    intro W hSw
    (try dsimp only at hSw)
    first | (go_simp; done) | (go_simp; with_reducible rfl)
  (try simp only [List.getElem_toArray, List.getElem_cons_succ,  List.getElem_cons_zero, Act.put, List.setIfInBounds_toArray, List.set_cons_zero, List.set_cons_succ])
  refine wpAnyH_take (i := 5) (v := ?_) rfl (by kernel_rfl) (by kernel_rfl) (by kernel_rfl) (fun _ _ _ h => h) (Or.inl ⟨by rfl, ?hy⟩) (by assumption) ?_
  case hy =>
    intro W hSw
    (try dsimp only at hSw)
    first | (go_simp; done) | (go_simp; with_reducible rfl)
  (try simp only [List.getElem_toArray, List.getElem_cons_succ,  List.getElem_cons_zero, Act.put, List.setIfInBounds_toArray, List.set_cons_zero, List.set_cons_succ])
  refine wpAnyH_take (i := 6) (v := ?_) rfl (by kernel_rfl) (by kernel_rfl) (by kernel_rfl) (fun _ _ _ h => h) (Or.inl ⟨by rfl, ?hy⟩) (by assumption) ?_
  case hy =>
    intro W hSw
    (try dsimp only at hSw)
    first | (go_simp; done) | (go_simp; with_reducible rfl)
  (try simp only [List.getElem_toArray, List.getElem_cons_succ,  List.getElem_cons_zero, Act.put, List.setIfInBounds_toArray, List.set_cons_zero, List.set_cons_succ])
  refine wpAnyH_take (i := 7) (v := ?_) rfl (by kernel_rfl) (by kernel_rfl) (by kernel_rfl) (fun _ _ _ h => h) (Or.inl ⟨by rfl, ?hy⟩) (by assumption) ?_
  case hy =>
    intro W hSw
    (try dsimp only at hSw)
    first | (go_simp; done) | (go_simp; with_reducible rfl)
  (try simp only [List.getElem_toArray, List.getElem_cons_succ,  List.getElem_cons_zero, Act.put, List.setIfInBounds_toArray, List.set_cons_zero, List.set_cons_succ])
  refine wpAnyH_take (i := 8) (v := ?_) rfl (by kernel_rfl) (by kernel_rfl) (by kernel_rfl) (fun _ _ _ h => h) (Or.inl ⟨by rfl, ?hy⟩) (by assumption) ?_
  case hy =>
    intro W hSw
    (try dsimp only at hSw)
    first | (go_simp; done) | (go_simp; with_reducible rfl)
  (try simp only [List.getElem_toArray, List.getElem_cons_succ,  List.getElem_cons_zero, Act.put, List.setIfInBounds_toArray, List.set_cons_zero, List.set_cons_succ])
  refine wpAnyH_take (i := 9) (v := ?_) rfl (by kernel_rfl) (by kernel_rfl) (by kernel_rfl) (fun _ _ _ h => h) (Or.inl ⟨by rfl, ?hy⟩) (by assumption) ?_
  case hy =>
    intro W hSw
    (try dsimp only at hSw)
    first | (go_simp; done) | (go_simp; with_reducible rfl)
  (try simp only [List.getElem_toArray, List.getElem_cons_succ,  List.getElem_cons_zero, Act.put, List.setIfInBounds_toArray, List.set_cons_zero, List.set_cons_succ])
  refine wpAnyH_take (i := 10) (v := ?_) rfl (by kernel_rfl) (by kernel_rfl) (by kernel_rfl) (fun _ _ _ h => h) (Or.inl ⟨by rfl, ?hy⟩) (by assumption) ?_
  case hy =>
    intro W hSw
    (try dsimp only at hSw)
    first | (go_simp; done) | (go_simp; with_reducible rfl)
  (try simp only [List.getElem_toArray, List.getElem_cons_succ,  List.getElem_cons_zero, Act.put, List.setIfInBounds_toArray, List.set_cons_zero, List.set_cons_succ])
  refine wpAnyH_take (i := 11) (v := ?_) rfl (by kernel_rfl) (by kernel_rfl) (by kernel_rfl) (fun _ _ _ h => h) (Or.inl ⟨by rfl, ?hy⟩) (by assumption) ?_
  case hy =>
    intro W hSw
    (try dsimp only at hSw)
    first | (go_simp; done) | (go_simp; with_reducible rfl)
  (try simp only [List.getElem_toArray, List.getElem_cons_succ,  List.getElem_cons_zero, Act.put, List.setIfInBounds_toArray, List.set_cons_zero, List.set_cons_succ])
  refine wpAnyH_take (i := 12) (v := ?_) rfl (by kernel_rfl) (by kernel_rfl) (by kernel_rfl) (fun _ _ _ h => h) (Or.inl ⟨by rfl, ?hy⟩) (by assumption) ?_
  case hy =>
    intro W hSw
    (try dsimp only at hSw)
    first | (go_simp; done) | (go_simp; with_reducible rfl)
  (try simp only [List.getElem_toArray, List.getElem_cons_succ,  List.getElem_cons_zero, Act.put, List.setIfInBounds_toArray, List.set_cons_zero, List.set_cons_succ])
  refine wpAnyH_take (i := 13) (v := ?_) rfl (by kernel_rfl) (by kernel_rfl) (by kernel_rfl) (fun _ _ _ h => h) (Or.inl ⟨by rfl, ?hy⟩) (by assumption) ?_
  case hy =>
    intro W hSw
    (try dsimp only at hSw)
    first | (go_simp; done) | (go_simp; with_reducible rfl)
  (try simp only [List.getElem_toArray, List.getElem_cons_succ,  List.getElem_cons_zero, Act.put, List.setIfInBounds_toArray, List.set_cons_zero, List.set_cons_succ])
  refine wpAnyH_take (i := 14) (v := ?_) rfl (by kernel_rfl) (by kernel_rfl) (by kernel_rfl) (fun _ _ _ h => h) (Or.inl ⟨by rfl, ?hy⟩) (by assumption) ?_
  case hy =>
    intro W hSw
    (try dsimp only at hSw)
    first | (go_simp; done) | (go_simp; with_reducible rfl)
  (try simp only [List.getElem_toArray, List.getElem_cons_succ,  List.getElem_cons_zero, Act.put, List.setIfInBounds_toArray, List.set_cons_zero, List.set_cons_succ])
  refine wpAnyH_ready (rs := [15]) (by kernel_rfl) (by simp) ?_
  refine AllReadyH.cons rfl (fun K hK => ?_) AllReadyH.nil
  go_simp
  refine (of_any _ _ _ _).mono ?_
  rintro e v1 ⟨rfl, hb1⟩
  go_wp2_with fail
  refine hK.out _ _ (holdT (by assumption) hb1) (fun hHeld => ?_)
  clear hK K
  (try simp only [List.getElem_toArray, List.getElem_cons_succ,  List.getElem_cons_zero, Act.put, List.setIfInBounds_toArray, List.set_cons_zero, List.set_cons_succ])
  refine wpAnyH_take (i := 16) (v := ?_) rfl (by kernel_rfl) (by kernel_rfl) (by kernel_rfl) (fun _ _ _ h => h) (Or.inl ⟨by rfl, ?hy⟩) (by assumption) ?_
  case hy =>
    intro W hSw
    (try dsimp only at hSw)
    first | (go_simp; done) | (go_simp; with_reducible rfl)
  (try simp only [List.getElem_toArray, List.getElem_cons_succ,  List.getElem_cons_zero, Act.put, List.setIfInBounds_toArray, List.set_cons_zero, List.set_cons_succ])
  refine wpAnyH_take (i := 17) (v := ?_) rfl (by kernel_rfl) (by kernel_rfl) (by kernel_rfl) (fun _ _ _ h => h) (Or.inl ⟨by rfl, ?hy⟩) (by assumption) ?_
  case hy =>
    intro W hSw
    (try dsimp only at hSw)
    first | (go_simp; done) | (go_simp; with_reducible rfl)
  (try simp only [List.getElem_toArray, List.getElem_cons_succ,  List.getElem_cons_zero, Act.put, List.setIfInBounds_toArray, List.set_cons_zero, List.set_cons_succ])
  refine wpAnyH_take (i := 18) (v := ?_) rfl (by kernel_rfl) (by kernel_rfl) (by kernel_rfl) (fun _ _ _ h => h) (Or.inl ⟨by rfl, ?hy⟩) (by assumption) ?_
  case hy =>
    intro W hSw
    (try dsimp only at hSw)
    first | (go_simp; done) | (go_simp; with_reducible rfl)
  (try simp only [List.getElem_toArray, List.getElem_cons_succ,  List.getElem_cons_zero, Act.put, List.setIfInBounds_toArray, List.set_cons_zero, List.set_cons_succ])
  refine wpAnyH_take (i := 19) (v := ?_) rfl (by kernel_rfl) (by kernel_rfl) (by kernel_rfl) (fun _ _ _ h => h) (Or.inl ⟨by rfl, ?hy⟩) (by assumption) ?_
  case hy =>
    intro W hSw
    (try dsimp only at hSw)
    first | (go_simp; done) | (go_simp; with_reducible rfl)
  (try simp only [List.getElem_toArray, List.getElem_cons_succ,  List.getElem_cons_zero, Act.put, List.setIfInBounds_toArray, List.set_cons_zero, List.set_cons_succ])
  refine wpAnyH_take (i := 20) (v := ?_) rfl (by kernel_rfl) (by kernel_rfl) (by kernel_rfl) (fun _ _ _ h => h) (Or.inl ⟨by rfl, ?hy⟩) (by assumption) ?_
  case hy =>
    intro W hSw
    (try dsimp only at hSw)
    first | (go_simp; done) | (go_simp; with_reducible rfl)
  (try simp only [List.getElem_toArray, List.getElem_cons_succ,  List.getElem_cons_zero, Act.put, List.setIfInBounds_toArray, List.set_cons_zero, List.set_cons_succ])
  refine wpAnyH_take (i := 21) (v := ?_) rfl (by kernel_rfl) (by kernel_rfl) (by kernel_rfl) (fun _ _ _ h => h) (Or.inl ⟨by rfl, ?hy⟩) (by assumption) ?_
  case hy =>
    intro W hSw
    (try dsimp only at hSw)
    first | (go_simp; done) | (go_simp; with_reducible rfl)
  (try simp only [List.getElem_toArray, List.getElem_cons_succ,  List.getElem_cons_zero, Act.put, List.setIfInBounds_toArray, List.set_cons_zero, List.set_cons_succ])
  refine wpAnyH_take (i := 22) (v := ?_) rfl (by kernel_rfl) (by kernel_rfl) (by kernel_rfl) (fun _ _ _ h => h) (Or.inl ⟨by rfl, ?hy⟩) (by assumption) ?_
  case hy =>
    intro W hSw
    (try dsimp only at hSw)
    first | (go_simp; done) | (go_simp; with_reducible rfl)
  (try simp only [List.getElem_toArray, List.getElem_cons_succ,  List.getElem_cons_zero, Act.put, List.setIfInBounds_toArray, List.set_cons_zero, List.set_cons_succ])
  refine wpAnyH_take (i := 23) (v := ?_) rfl (by kernel_rfl) (by kernel_rfl) (by kernel_rfl) (fun _ _ _ h => h) (Or.inl ⟨by rfl, ?hy⟩) (by assumption) ?_
  case hy =>
    intro W hSw
    (try dsimp only at hSw)
    first | (go_simp; done) | (go_simp; with_reducible rfl)
  (try simp only [List.getElem_toArray, List.getElem_cons_succ,  List.getElem_cons_zero, Act.put, List.setIfInBounds_toArray, List.set_cons_zero, List.set_cons_succ])
  refine wpAnyH_take (i := 24) (v := ?_) rfl (by kernel_rfl) (by kernel_rfl) (by kernel_rfl) (fun _ _ _ h => h) (Or.inl ⟨by rfl, ?hy⟩) (by assumption) ?_
  case hy =>
    intro W hSw
    (try dsimp only at hSw)
    first | (go_simp; done) | (go_simp; with_reducible rfl)
  (try simp only [List.getElem_toArray, List.getElem_cons_succ,  List.getElem_cons_zero, Act.put, List.setIfInBounds_toArray, List.set_cons_zero, List.set_cons_succ])
  refine wpAnyH_take (i := 25) (v := ?_) rfl (by kernel_rfl) (by kernel_rfl) (by kernel_rfl) (fun _ _ _ h => h) (Or.inl ⟨by rfl, ?hy⟩) (by assumption) ?_
  case hy =>
    intro W hSw
    (try dsimp only at hSw)
    first | (go_simp; done) | (go_simp; with_reducible rfl)
  (try simp only [List.getElem_toArray, List.getElem_cons_succ,  List.getElem_cons_zero, Act.put, List.setIfInBounds_toArray, List.set_cons_zero, List.set_cons_succ])
  refine wpAnyH_take (i := 26) (v := ?_) rfl (by kernel_rfl) (by kernel_rfl) (by kernel_rfl) (fun _ _ _ h => h) (Or.inl ⟨by rfl, ?hy⟩) (by assumption) ?_
  case hy =>
    intro W hSw
    (try dsimp only at hSw)
    first | (go_simp; done) | (go_simp; with_reducible rfl)
  (try simp only [List.getElem_toArray, List.getElem_cons_succ,  List.getElem_cons_zero, Act.put, List.setIfInBounds_toArray, List.set_cons_zero, List.set_cons_succ])
  refine wpAnyH_take (i := 27) (v := ?_) rfl (by kernel_rfl) (by kernel_rfl) (by kernel_rfl) (fun _ _ _ h => h) (Or.inl ⟨by rfl, ?hy⟩) (by assumption) ?_
  case hy =>
    intro W hSw
    (try dsimp only at hSw)
    first | (go_simp; done) | (go_simp; with_reducible rfl)
  (try simp only [List.getElem_toArray, List.getElem_cons_succ,  List.getElem_cons_zero, Act.put, List.setIfInBounds_toArray, List.set_cons_zero, List.set_cons_succ])
  refine wpAnyH_take (i := 28) (v := ?_) rfl (by kernel_rfl) (by kernel_rfl) (by kernel_rfl) (fun _ _ _ h => h) (Or.inl ⟨by rfl, ?hy⟩) (by assumption) ?_
  case hy =>
    intro W hSw
    (try dsimp only at hSw)
    first | (go_simp; done) | (go_simp; with_reducible rfl)
  (try simp only [List.getElem_toArray, List.getElem_cons_succ,  List.getElem_cons_zero, Act.put, List.setIfInBounds_toArray, List.set_cons_zero, List.set_cons_succ])
  refine wpAnyH_take (i := 29) (v := ?_) rfl (by kernel_rfl) (by kernel_rfl) (by kernel_rfl) (fun _ _ _ h => h) (Or.inl ⟨by rfl, ?hy⟩) (by assumption) ?_
  case hy =>
    intro W hSw
    (try dsimp only at hSw)
    first | (go_simp; done) | (go_simp; with_reducible rfl)
  (try simp only [List.getElem_toArray, List.getElem_cons_succ,  List.getElem_cons_zero, Act.put, List.setIfInBounds_toArray, List.set_cons_zero, List.set_cons_succ])
  refine wpAnyH_take (i := 30) (v := ?_) rfl (by kernel_rfl) (by kernel_rfl) (by kernel_rfl) (fun _ _ _ h => h) (Or.inl ⟨by rfl, ?hy⟩) (by assumption) ?_
  case hy =>
    intro W hSw
    (try dsimp only at hSw)
    first | (go_simp; done) | (go_simp; with_reducible rfl)
  (try simp only [List.getElem_toArray, List.getElem_cons_succ,  List.getElem_cons_zero, Act.put, List.setIfInBounds_toArray, List.set_cons_zero, List.set_cons_succ])
  refine wpAnyH_take (i := 31) (v := ?_) rfl (by kernel_rfl) (by kernel_rfl) (by kernel_rfl) (fun _ _ _ h => h) (Or.inl ⟨by rfl, ?hy⟩) (by assumption) ?_
  case hy =>
    intro W hSw
    (try dsimp only at hSw)
    first | (go_simp; done) | (go_simp; with_reducible rfl)
  (try simp only [List.getElem_toArray, List.getElem_cons_succ,  List.getElem_cons_zero, Act.put, List.setIfInBounds_toArray, List.set_cons_zero, List.set_cons_succ])
  refine wpAnyH_ready (rs := [32]) (by kernel_rfl) (by simp) ?_
  refine AllReadyH.cons rfl (fun K hK => ?_) AllReadyH.nil
  go_simp
  refine (of_any _ _ _ _).mono ?_
  rintro e v2 ⟨rfl, hb2⟩
  go_wp2_with fail
  refine hK.out _ _ (holdT (by assumption) hb2) (fun hHeld => ?_)
  clear hK K
  (try simp only [List.getElem_toArray, List.getElem_cons_succ,  List.getElem_cons_zero, Act.put, List.setIfInBounds_toArray, List.set_cons_zero, List.set_cons_succ])
  refine wpAnyH_take (i := 33) (v := ?_) rfl (by kernel_rfl) (by kernel_rfl) (by kernel_rfl) (fun _ _ _ h => h) (Or.inl ⟨by rfl, ?hy⟩) (by assumption) ?_
  case hy =>
    intro W hSw
    (try dsimp only at hSw)
    first | (go_simp; done) | (go_simp; with_reducible rfl)
  (try simp only [List.getElem_toArray, List.getElem_cons_succ,  List.getElem_cons_zero, Act.put, List.setIfInBounds_toArray, List.set_cons_zero, List.set_cons_succ])
  refine wpAnyH_take (i := 34) (v := ?_) rfl (by kernel_rfl) (by kernel_rfl) (by kernel_rfl) (fun _ _ _ h => h) (Or.inl ⟨by rfl, ?hy⟩) (by assumption) ?_
  case hy =>
    intro W hSw
    (try dsimp only at hSw)
    first | (go_simp; done) | (go_simp; with_reducible rfl)
  (try simp only [List.getElem_toArray, List.getElem_cons_succ,  List.getElem_cons_zero, Act.put, List.setIfInBounds_toArray, List.set_cons_zero, List.set_cons_succ])
  refine wpAnyH_take (i := 35) (v := ?_) rfl (by kernel_rfl) (by kernel_rfl) (by kernel_rfl) (fun _ _ _ h => h) (Or.inl ⟨by rfl, ?hy⟩) (by assumption) ?_
  case hy =>
    intro W hSw
    (try dsimp only at hSw)
    first | (go_simp; done) | (go_simp; with_reducible rfl)
  (try simp only [List.getElem_toArray, List.getElem_cons_succ,  List.getElem_cons_zero, Act.put, List.setIfInBounds_toArray, List.set_cons_zero, List.set_cons_succ])
  refine wpAnyH_take (i := 36) (v := ?_) rfl (by kernel_rfl) (by kernel_rfl) (by kernel_rfl) (fun _ _ _ h => h) (Or.inl ⟨by rfl, ?hy⟩) (by assumption) ?_
  case hy =>
    intro W hSw
    (try dsimp only at hSw)
    first | (go_simp; done) | (go_simp; with_reducible rfl)
  (try simp only [List.getElem_toArray, List.getElem_cons_succ,  List.getElem_cons_zero, Act.put, List.setIfInBounds_toArray, List.set_cons_zero, List.set_cons_succ])
  refine wpAnyH_take (i := 37) (v := ?_) rfl (by kernel_rfl) (by kernel_rfl) (by kernel_rfl) (fun _ _ _ h => h) (Or.inl ⟨by rfl, ?hy⟩) (by assumption) ?_
  case hy =>
    intro W hSw
    (try dsimp only at hSw)
    first | (go_simp; done) | (go_simp; with_reducible rfl)
  (try simp only [List.getElem_toArray, List.getElem_cons_succ,  List.getElem_cons_zero, Act.put, List.setIfInBounds_toArray, List.set_cons_zero, List.set_cons_succ])
  refine wpAnyH_take (i := 38) (v := ?_) rfl (by kernel_rfl) (by kernel_rfl) (by kernel_rfl) (fun _ _ _ h => h) (Or.inl ⟨by rfl, ?hy⟩) (by assumption) ?_
  case hy =>
    intro W hSw
    (try dsimp only at hSw)
    first | (go_simp; done) | (go_simp; with_reducible rfl)
  (try simp only [List.getElem_toArray, List.getElem_cons_succ,  List.getElem_cons_zero, Act.put, List.setIfInBounds_toArray, List.set_cons_zero, List.set_cons_succ])
  refine wpAnyH_take (i := 39) (v := ?_) rfl (by kernel_rfl) (by kernel_rfl) (by kernel_rfl) (fun _ _ _ h => h) (Or.inl ⟨by rfl, ?hy⟩) (by assumption) ?_
  case hy =>
    intro W hSw
    (try dsimp only at hSw)
    first | (go_simp; done) | (go_simp; with_reducible rfl)
  (try simp only [List.getElem_toArray, List.getElem_cons_succ,  List.getElem_cons_zero, Act.put, List.setIfInBounds_toArray, List.set_cons_zero, List.set_cons_succ])
  refine wpAnyH_done (by kernel_rfl) ?_ _
  have hro : RRow v2 gb exB := HO17.out.below hHeld.1
  have r0 : v2.cell? ⟨gb, 0, none⟩ = some (.int .i64 201) := (hro.get (i := 0) rfl).1
  have r1 : v2.cell? ⟨gb, 1, none⟩ = some (.int .i64 200) := (hro.get (i := 0) rfl).2.1
  have r2 : v2.cell? ⟨gb, 4, none⟩ = some (.int .i64 7) := (hro.get (i := 2) rfl).1
  have r3 : v2.cell? ⟨gb, 5, none⟩ = some (.int .i64 100) := (hro.get (i := 2) rfl).2.1
  have hgv := hro.lt
  have hbv := BE17.out.trans (hHeld.1.mono BE17.out.size)
  have HBV := Lib.hid hbv
  have HRO := Lib.hid hro
  clear hro hbv hHeld hb1 hb2
  go_wp2_with fail
  refine (covers_any (some ⟨gb, 0, none⟩) (some ⟨gb, 0, none⟩) 4 4 exB exB _ (by decide) (HRO.out.rats ex_64) (HRO.out.rats ex_64)).mono ?_
  rintro e v3 ⟨rfl, hb3⟩
  rw [ex_cov]
  have HRO3 := Lib.hid (HRO.out.below hb3)
  have HBV3 := Lib.hid (HBV.out.trans (hb3.mono HBV.out.size))
  clear hb3
  go_wp2_with fail
  refine (covers_any (some ⟨gb, 0, none⟩) (some ⟨gb, 0, none⟩) 4 4 exB (exB.take 3) _ (by decide) (HRO3.out.rats ex_64) ((HRO3.out.rats ex_64).take 3)).mono ?_
  rintro e v4 ⟨rfl, hb4⟩
  rw [ex_nocov]
  go_wp2_with fail
  go_ret
  exact ⟨rfl, HBV3.out.trans (hb4.mono HBV3.out.size)⟩
end Go.Proofs.Ytpdknjbhnelidaa

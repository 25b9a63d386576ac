/- Tables, amounts and ratios in memory; whether a number is an index; the comparison of names; the search of a table. -/
import Derived.Test.YtpdknjbhnelidaaQtAdd
import Derived.Test.YtpdknjbhnelidaaQtMath3
import Derived.Test.YtpdknjbhnelidaaQtMath4
import Derived.Deep.RegionHeld3
import Derived.Shelf.RegionOpen
import Derived.Lib.SmallJoins
namespace Go.Proofs.Ytpdknjbhnelidaa
open Go.RowKit

theorem cell_keep {w w' : World} (hb : Below w.heap.size w w') {a : Addr} {v : Value} (hc : w.cell? a = some v) : w'.cell? a = some v := (hb.cell (World.block_lt_of_cell? w a hc)).trans hc
abbrev B64 (x : Int) : Prop := -9223372036854775808 ≤ x ∧ x ≤ 9223372036854775807
/-- a unit as a value -/
def UV (u : Qn.Un) : Value := .agg #[.string ⟨u.nm.toArray⟩, .int .i64 u.kd, .int .i64 u.base, .int .i64 u.fac.1, .int .i64 u.fac.2]
/-- the cells of a unit -/
def UCell (w : World) (b o : Nat) (u : Qn.Un) : Prop :=
  w.cell? ⟨b, o, none⟩ = some (.string ⟨u.nm.toArray⟩) ∧ w.cell? ⟨b, o + 1, none⟩ = some (.int .i64 u.kd) ∧ w.cell? ⟨b, o + 2, none⟩ = some (.int .i64 u.base) ∧ w.cell? ⟨b, o + 3, none⟩ = some (.int .i64 u.fac.1) ∧ w.cell? ⟨b, o + 4, none⟩ = some (.int .i64 u.fac.2)
theorem UCell.below {w w' : World} {b o : Nat} {u : Qn.Un} (h : UCell w b o u) (hb : Below w.heap.size w w') : UCell w' b o u :=
  ⟨cell_keep hb h.1, cell_keep hb h.2.1, cell_keep hb h.2.2.1, cell_keep hb h.2.2.2.1, cell_keep hb h.2.2.2.2⟩
/-- a table in memory -/
def Tab (w : World) (p : Option Addr) (us : List Qn.Un) : Prop :=
  (∀ u ∈ us, B64 u.fac.1) ∧ (us = [] ∨ ∃ b off, p = some ⟨b, off, none⟩ ∧ ∀ (j : Nat) u, us[j]? = some u → UCell w b (off + j * 5) u)
theorem Tab.below {w w' : World} {p : Option Addr} {us : List Qn.Un} (h : Tab w p us) (hb : Below w.heap.size w w') : Tab w' p us := by
  obtain ⟨h1, h2⟩ := h
  refine ⟨h1, h2.imp id ?_⟩
  rintro ⟨b, off, hp, h⟩
  exact ⟨b, off, hp, fun j u hu => (h j u hu).below hb⟩
theorem Tab.at {w : World} {p : Option Addr} {us : List Qn.Un} (h : Tab w p us) {j : Nat} {u : Qn.Un} (hu : us[j]? = some u) : ∃ b off, p = some ⟨b, off, none⟩ ∧ UCell w b (off + j * 5) u ∧ B64 u.fac.1 ∧ b < w.heap.size := by
  obtain ⟨h1, h2⟩ := h
  rcases h2 with rfl | ⟨b, off, hp, h⟩
  · simp at hu
  · exact ⟨b, off, hp, h j u hu, h1 u (List.mem_of_getElem? hu), World.block_lt_of_cell? w _ (h j u hu).1⟩
/-- an amount as a value -/
def AV (a : Qn.Am) : Value := .agg #[.int .i64 a.1, .int .i64 a.2.1, .int .i64 a.2.2]
def ACell (w : World) (b o : Nat) (a : Qn.Am) : Prop :=
  w.cell? ⟨b, o, none⟩ = some (.int .i64 a.1) ∧ w.cell? ⟨b, o + 1, none⟩ = some (.int .i64 a.2.1) ∧ w.cell? ⟨b, o + 2, none⟩ = some (.int .i64 a.2.2)
theorem ACell.below {w w' : World} {b o : Nat} {a : Qn.Am} (h : ACell w b o a) (hb : Below w.heap.size w w') : ACell w' b o a :=
  ⟨cell_keep hb h.1, cell_keep hb h.2.1, cell_keep hb h.2.2⟩
/-- amounts in memory -/
def Amts (w : World) (p : Option Addr) (l : List Qn.Am) : Prop :=
  (∀ a ∈ l, B64 a.2.1) ∧ (l = [] ∨ ∃ b off, p = some ⟨b, off, none⟩ ∧ ∀ (j : Nat) a, l[j]? = some a → ACell w b (off + j * 3) a)
theorem Amts.below {w w' : World} {p : Option Addr} {l : List Qn.Am} (h : Amts w p l) (hb : Below w.heap.size w w') : Amts w' p l := by
  obtain ⟨h1, h2⟩ := h
  refine ⟨h1, h2.imp id ?_⟩
  rintro ⟨b, off, hp, h⟩
  exact ⟨b, off, hp, fun j u hu => (h j u hu).below hb⟩
theorem Amts.at {w : World} {p : Option Addr} {l : List Qn.Am} (h : Amts w p l) {j : Nat} {a : Qn.Am} (hu : l[j]? = some a) : ∃ b off, p = some ⟨b, off, none⟩ ∧ ACell w b (off + j * 3) a ∧ B64 a.2.1 ∧ b < w.heap.size := by
  obtain ⟨h1, h2⟩ := h
  rcases h2 with rfl | ⟨b, off, hp, h⟩
  · simp at hu
  · exact ⟨b, off, hp, h j a hu, h1 a (List.mem_of_getElem? hu), World.block_lt_of_cell? w _ (h j a hu).1⟩
/-- ratios in memory -/
def RCell (w : World) (b o : Nat) (r : Qn.R) : Prop := w.cell? ⟨b, o, none⟩ = some (.int .i64 r.1) ∧ w.cell? ⟨b, o + 1, none⟩ = some (.int .i64 r.2)
theorem RCell.below {w w' : World} {b o : Nat} {a : Qn.R} (h : RCell w b o a) (hb : Below w.heap.size w w') : RCell w' b o a := ⟨cell_keep hb h.1, cell_keep hb h.2⟩
def Rats (w : World) (p : Option Addr) (l : List Qn.R) : Prop :=
  (∀ r ∈ l, B64 r.1) ∧ (l = [] ∨ ∃ b off, p = some ⟨b, off, none⟩ ∧ ∀ (j : Nat) r, l[j]? = some r → RCell w b (off + j * 2) r)
theorem Rats.below {w w' : World} {p : Option Addr} {l : List Qn.R} (h : Rats w p l) (hb : Below w.heap.size w w') : Rats w' p l := by
  obtain ⟨h1, h2⟩ := h
  refine ⟨h1, h2.imp id ?_⟩
  rintro ⟨b, off, hp, h⟩
  exact ⟨b, off, hp, fun j u hu => (h j u hu).below hb⟩
theorem Rats.at {w : World} {p : Option Addr} {l : List Qn.R} (h : Rats w p l) {j : Nat} {r : Qn.R} (hu : l[j]? = some r) : ∃ b off, p = some ⟨b, off, none⟩ ∧ RCell w b (off + j * 2) r ∧ B64 r.1 ∧ b < w.heap.size := by
  obtain ⟨h1, h2⟩ := h
  rcases h2 with rfl | ⟨b, off, hp, h⟩
  · simp at hu
  · exact ⟨b, off, hp, h j r hu, h1 r (List.mem_of_getElem? hu), World.block_lt_of_cell? w _ (h j r hu).1⟩

theorem has_any (p : Option Addr) (n cap : Nat) (i : Int) (w : World) :
    Calls Try.prog 28 #[.slice p n cap, .int .i64 i] w fun e w' => e = .returned (.bool (decide (0 ≤ i ∧ i < (n : Int)))) ∧ w = w' := by
  by_cases h : 0 ≤ i
  · have e : decide (0 ≤ i ∧ i < (n : Int)) = decide (i < (n : Int)) := by simp [h]
    rw [e]
    clear e
    go_enter Try.func28, Try.ntmps28
    go_wp2_with fail
    go_ret
    exact ⟨rfl, rfl⟩
  · have e : decide (0 ≤ i ∧ i < (n : Int)) = false := by simp [h]
    rw [e]
    clear e
    go_enter Try.func28, Try.ntmps28
    go_wp2_with fail
    go_ret
    exact ⟨rfl, rfl⟩
/-- the comparison of a unit's name with that of the unit in a block -/
theorem same_name (v u : Qn.Un) (ub : Nat) (w : World) (hlt : ub < w.heap.size) (hc : w.cell? ⟨ub, 0, none⟩ = some (.string ⟨u.nm.toArray⟩)) :
    Calls Try.prog 37 #[UV v, .pointer (some ⟨ub, 0, none⟩)] w fun e w' => e = .returned (.bool (v.nm == u.nm)) ∧ Below w.heap.size w w' := by
  unfold UV
  go_enter Try.func37, Try.ntmps37
  go_wp2_with fail
  go_ret
  exact ⟨rfl, (by repeat (first | exact Below.refl _ _ | assumption | refine below_drewN ?_ _ | refine Below.setCell ?_ (by first | (simp; done) | (simp; omega)) _ | refine Below.alloc ?_ (by first | (simp; done) | (simp; omega) | omega) _ | refine Below.drew ?_ | refine Below.trans ?_ (Below.mono (by assumption) (by first | (simp; done) | (simp; omega) | omega))))⟩
end Go.Proofs.Ytpdknjbhnelidaa

/- Opening a calendar that is handed over by value: seven truth values and the holidays. -/
import Derived.Test.YtlbfnafniobnaaaDoorDtO
import Derived.Test.YtlbfnafniobnaaaDoorDtE
namespace Go.Proofs.YtlbfnafniobnaaaDoor
open Go.ChangeShapes Go.WideShapes Go.ChangeAt Go.WideMaps Go.WideElems Go.RowKit Go.Joins

theorem cells_cal : Tryd.prog.cellsOf 28 = 8 := by kernel_rfl
theorem cells_week : Tryd.prog.cellsOf 25 = 7 := by kernel_rfl
theorem cells_ints : Tryd.prog.cellsOf 26 = 1 := by kernel_rfl
theorem cells_oneint : Tryd.prog.cellsOf 3 = 1 := by kernel_rfl
theorem array8 {α : Type} {cs : Array α} (h : cs.size = 8) : ∃ c0 c1 c2 c3 c4 c5 c6 c7, cs = #[c0, c1, c2, c3, c4, c5, c6, c7] := by
  obtain ⟨l⟩ := cs
  match l, h with
  | [c0, c1, c2, c3, c4, c5, c6, c7], _ => exact ⟨c0, c1, c2, c3, c4, c5, c6, c7, rfl⟩
theorem week_open {H : Type} {enc : TypeId × Value → H} {W : World} {sp : Nat → Bool} {held : Bool} {b0 fuel : Nat} {c0 c1 c2 c3 c4 c5 c6 : Value} {x : DataW H × List MemPlace}
    (h : DataW.trod enc Tryd.prog W b0 sp held fuel 25 [c0, c1, c2, c3, c4, c5, c6] = some x) :
    ∃ x0 x1 x2 x3 x4 x5 x6 : Bool, [c0, c1, c2, c3, c4, c5, c6] = [.bool x0, .bool x1, .bool x2, .bool x3, .bool x4, .bool x5, .bool x6] := by
  obtain ⟨xs, m, _, _, _, hl, hi⟩ := DataW.trod_array Tryd.underlying25 h
  rw [cells_bool] at hi
  have each : ∀ i, i < 7 → ∃ b, (([c0, c1, c2, c3, c4, c5, c6] : List Value).drop (i * 1)).take 1 = [.bool b] := fun i hx => by
    have e := hi i hx
    rw [List.getElem?_eq_getElem (by omega)] at e
    obtain ⟨b, eb, _⟩ := DataW.trod_bool Tryd.underlying4 e
    exact ⟨b, eb⟩
  obtain ⟨x0, e0⟩ := each 0 (by omega)
  obtain ⟨x1, e1⟩ := each 1 (by omega)
  obtain ⟨x2, e2⟩ := each 2 (by omega)
  obtain ⟨x3, e3⟩ := each 3 (by omega)
  obtain ⟨x4, e4⟩ := each 4 (by omega)
  obtain ⟨x5, e5⟩ := each 5 (by omega)
  obtain ⟨x6, e6⟩ := each 6 (by omega)
  simp at e0 e1 e2 e3 e4 e5 e6
  exact ⟨x0, x1, x2, x3, x4, x5, x6, by rw [e0, e1, e2, e3, e4, e5, e6]⟩
set_option maxRecDepth 100000 in
theorem open_cal {H : Type} {enc : TypeId × Value → H} {W : World} {base : Nat} {sp : Nat → Bool} {held : Bool} {b0 : Nat} {v : Value} {d : DataW H} {p : List MemPlace} (h : Value.okWide Tryd.prog W .any base 28 v) (h0 : DataW.Trod enc Tryd.prog W b0 sp held 28 v d p) :
    ∃ (x0 x1 x2 x3 x4 x5 x6 : Bool) (a : Option Addr) (n cap : Nat) (hs : List Int), v = .agg #[.bool x0, .bool x1, .bool x2, .bool x3, .bool x4, .bool x5, .bool x6, .slice a n cap] ∧ hs.length = n ∧ Hols W a hs := by
  obtain ⟨cs, rfl, hsz⟩ := okWide_struct Tryd.underlying28 h
  obtain ⟨c0, c1, c2, c3, c4, c5, c6, c7, rfl⟩ := array8 (hsz.trans cells_cal)
  obtain ⟨fuel, hf⟩ := h0
  obtain ⟨y0, y1, n, _, _, h1, h2⟩ := trod_struct2 Tryd.underlying28 hf
  have k1 : DataW.trod enc Tryd.prog W b0 sp held n 25 [c0, c1, c2, c3, c4, c5, c6] = some y0 := by
    have := h1
    simp only [cells_week, Value.cells] at this
    exact this
  have k2 : DataW.trod enc Tryd.prog W b0 sp held n 26 [c7] = some y1 := by
    have := h2
    simp only [cells_ints, Value.cells] at this
    exact this
  obtain ⟨x0, x1, x2, x3, x4, x5, x6, e⟩ := week_open k1
  simp only [List.cons.injEq, and_true] at e
  obtain ⟨rfl, rfl, rfl, rfl, rfl, rfl, rfl⟩ := e
  rcases open_ints Tryd.underlying26 Tryd.underlying3 cells_oneint k2 with ⟨hcs, _⟩ | ⟨a, len, cap, zs, hcs, _, hl, _, hz, _, hcell, _⟩
  · simp only [List.cons.injEq, and_true] at hcs
    subst hcs
    exact ⟨x0, x1, x2, x3, x4, x5, x6, none, 0, 0, [], rfl, rfl, .inl rfl⟩
  · simp only [List.cons.injEq, and_true] at hcs
    subst hcs
    have hle : len ≤ zs.length := by rw [hz]; split <;> omega
    refine ⟨x0, x1, x2, x3, x4, x5, x6, some a, len, cap, zs.take len, rfl, by rw [List.length_take]; omega, ?_⟩
    by_cases h0 : len = 0
    · subst h0; exact .inl rfl
    · obtain ⟨b, off, rfl, hc⟩ := ints_at hcell (by omega)
      refine .inr ⟨b, off, rfl, fun j hj => ?_⟩
      have hj' : j < len := by rw [List.length_take] at hj; omega
      rw [hc j (by omega)]
      congr 2
      simp [hj']
end Go.Proofs.YtlbfnafniobnaaaDoor

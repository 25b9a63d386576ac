/- Opening a zone that is handed over by value: an offset and the changes; opening numbers. -/
import Derived.Test.YtcacmigfpahicaaZnA
import Derived.ProofKit
import Derived.OpenShut
import Derived.ChangeSame
import Derived.Lib.SmallJoins
namespace Go.Proofs.Ytcacmigfpahicaa
open Go.ChangeShapes Go.WideShapes Go.ChangeAt Go.WideMaps Go.WideElems Go.RowKit Go.Joins

theorem own : ownKnob Try.prog.godebug = none := by kernel_rfl
theorem bd_i64 {n : Int} (h : (Lit.int .i64 n).wf = true) : -9223372036854775808 ≤ n ∧ n ≤ 9223372036854775807 := by
  have e1 : IntKind.i64.min = -9223372036854775808 := rfl
  have e2 : IntKind.i64.max = 9223372036854775807 := rfl
  simp [Lit.wf, e1, e2] at h
  omega
theorem bd_u16 {n : Int} (h : (Lit.int .u16 n).wf = true) : 0 ≤ n ∧ n ≤ 65535 := by
  have e1 : IntKind.u16.min = 0 := rfl
  have e2 : IntKind.u16.max = 65535 := rfl
  simp [Lit.wf, e1, e2] at h
  omega
theorem bd_i16 {n : Int} (h : (Lit.int .i16 n).wf = true) : -32768 ≤ n ∧ n ≤ 32767 := by
  have e1 : IntKind.i16.min = -32768 := rfl
  have e2 : IntKind.i16.max = 32767 := rfl
  simp [Lit.wf, e1, e2] at h
  omega
theorem bd_u32 {n : Int} (h : (Lit.int .u32 n).wf = true) : 0 ≤ n ∧ n ≤ 4294967295 := by
  have e1 : IntKind.u32.min = 0 := rfl
  have e2 : IntKind.u32.max = 4294967295 := rfl
  simp [Lit.wf, e1, e2] at h
  omega
theorem cells_zone : Try.prog.cellsOf 24 = 2 := by kernel_rfl
theorem cells_change : Try.prog.cellsOf 46 = 2 := by kernel_rfl
theorem cells_oneint : Try.prog.cellsOf 3 = 1 := by kernel_rfl
theorem cells_row : Try.prog.cellsOf 22 = 1 := by kernel_rfl
theorem array2 {α : Type} {cs : Array α} (h : cs.size = 2) : ∃ c0 c1, cs = #[c0, c1] := by
  obtain ⟨l⟩ := cs
  match l, h with
  | [c0, c1], _ => exact ⟨c0, c1, rfl⟩
/-- the number in a cell -/
def numAt (w : World) (a : Addr) : Int := match w.cell? a with | some (.int _ x) => x | _ => 0
theorem numAt_of {w : World} {a : Addr} {k : IntKind} {x : Int} (h : w.cell? a = some (.int k x)) : numAt w a = x := by unfold numAt; rw [h]
/-- an element of the changes: two numbers, side by side -/
theorem open_change {H : Type} {enc : TypeId × Value → H} {W : World} {base b0 : Nat} {sp : Nat → Bool} {held : Bool} {n : Nat} {a : Addr} {y : DataW H × List MemPlace}
    (h : (W.cells? base a 2).bind (DataW.trod enc Try.prog W b0 sp held n 46) = some y) :
    ∃ x y : Int, W.cell? (a.add 0) = some (.int .i64 x) ∧ W.cell? (a.add 1) = some (.int .i64 y) ∧ (Lit.int .i64 x).wf = true ∧ (Lit.int .i64 y).wf = true := by
  rw [Option.bind_eq_some_iff] at h
  obtain ⟨cs, hcs, ht⟩ := h
  obtain ⟨_, hl, hat⟩ := World.cells?_some hcs
  obtain ⟨y0, y1, m, _, _, h1, h2⟩ := trod_struct2 Try.underlying46 ht
  match cs, hl with
  | [c0, c1], _ =>
    have k1 : DataW.trod enc Try.prog W b0 sp held m 3 [c0] = some y0 := by
      have := h1
      simp only [cells_oneint] at this
      exact this
    have k2 : DataW.trod enc Try.prog W b0 sp held m 3 [c1] = some y1 := by
      have := h2
      simp only [cells_oneint] at this
      exact this
    obtain ⟨x, ex, _, wx⟩ := DataW.trod_int Try.underlying3 k1
    obtain ⟨z, ez, _, wz⟩ := DataW.trod_int Try.underlying3 k2
    simp only [List.cons.injEq, and_true] at ex ez
    subst ex ez
    exact ⟨x, z, hat 0 (by omega), hat 1 (by omega), wx, wz⟩
set_option maxRecDepth 100000 in
theorem open_zone {H : Type} {enc : TypeId × Value → H} {W : World} {base : Nat} {sp : Nat → Bool} {held : Bool} {b0 : Nat} {v : Value} {d : DataW H} {p : List MemPlace} (h : Value.okWide Try.prog W .any base 24 v) (h0 : DataW.Trod enc Try.prog W b0 sp held 24 v d p) :
    ∃ (o : Int) (a : Option Addr) (n cap : Nat) (cs : List (Int × Int)), v = .agg #[.int .i64 o, .slice a n cap] ∧ cs.length = n ∧ Chg W a cs ∧ (-9223372036854775808 ≤ o ∧ o ≤ 9223372036854775807) ∧ (∀ c ∈ cs, (-9223372036854775808 ≤ c.1 ∧ c.1 ≤ 9223372036854775807) ∧ (-9223372036854775808 ≤ c.2 ∧ c.2 ≤ 9223372036854775807)) := by
  obtain ⟨cs, rfl, hsz⟩ := okWide_struct Try.underlying24 h
  obtain ⟨c0, c1, rfl⟩ := array2 (hsz.trans cells_zone)
  obtain ⟨fuel, hf⟩ := h0
  obtain ⟨y0, y1, n, _, _, h1, h2⟩ := trod_struct2 Try.underlying24 hf
  have k1 : DataW.trod enc Try.prog W b0 sp held n 3 [c0] = some y0 := by
    have := h1
    simp only [cells_oneint, Value.cells] at this
    exact this
  have k2 : DataW.trod enc Try.prog W b0 sp held n 22 [c1] = some y1 := by
    have := h2
    simp only [cells_row, Value.cells] at this
    exact this
  obtain ⟨o, eo, _, wo⟩ := DataW.trod_int Try.underlying3 k1
  simp only [List.cons.injEq, and_true] at eo
  subst eo
  rcases DataW.trod_slice Try.underlying22 k2 with ⟨hcs, _⟩ | ⟨a, len, cap, elems, rest, m, _, hcs, _, _, _, _, hlen, hel, _⟩
  · simp only [List.cons.injEq, and_true] at hcs
    subst hcs
    exact ⟨o, none, 0, 0, [], rfl, rfl, .inl rfl, bd_i64 wo, fun c hc => by cases hc⟩
  · simp only [List.cons.injEq, and_true] at hcs
    subst hcs
    rw [cells_change] at hel
    have each : ∀ i, i < len → ∃ x y : Int, W.cell? ((a.add (i * 2)).add 0) = some (.int .i64 x) ∧ W.cell? ((a.add (i * 2)).add 1) = some (.int .i64 y) ∧ (Lit.int .i64 x).wf = true ∧ (Lit.int .i64 y).wf = true := fun i hi => by
      have e := hel i hi
      rw [List.getElem?_eq_getElem (by omega)] at e
      exact open_change e
    refine ⟨o, some a, len, cap, (List.range len).map fun i => (numAt W ((a.add (i * 2)).add 0), numAt W ((a.add (i * 2)).add 1)), rfl, by simp, ?_, bd_i64 wo, fun c hc => ?_⟩
    · by_cases h0 : len = 0
      · subst h0; exact .inl rfl
      · obtain ⟨b, off, spot⟩ := a
        obtain ⟨x, _, hx, _⟩ := each 0 (by omega)
        have hspot : spot = none := by simpa [Addr.add] using World.cell?_spot hx
        subst hspot
        refine .inr ⟨b, off, rfl, fun j hj => ?_⟩
        have hj' : j < len := by simpa using hj
        obtain ⟨x, y, hx, hy, _⟩ := each j hj'
        have e : ((List.range len).map fun i => (numAt W (((⟨b, off, none⟩ : Addr).add (i * 2)).add 0), numAt W (((⟨b, off, none⟩ : Addr).add (i * 2)).add 1))).getD j (0, 0) = (x, y) := by
          simp [hj', numAt_of hx, numAt_of hy]
        rw [e]
        rw [Go.WideShapes.add_plain, Go.WideShapes.add_plain] at hx hy
        exact ⟨hx, hy⟩
    · rw [List.mem_map] at hc
      obtain ⟨i, hi, rfl⟩ := hc
      obtain ⟨x, y, hx, hy, wx, wy⟩ := each i (List.mem_range.1 hi)
      dsimp only
      rw [numAt_of hx, numAt_of hy]
      exact ⟨bd_i64 wx, bd_i64 wy⟩
end Go.Proofs.Ytcacmigfpahicaa

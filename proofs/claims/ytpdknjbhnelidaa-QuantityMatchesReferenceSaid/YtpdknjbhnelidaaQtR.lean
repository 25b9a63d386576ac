/- Opening the arguments of the laws of quantity: tables, amounts, ratios, and lists of them. -/
import Derived.Test.YtpdknjbhnelidaaQtQ
import Derived.ProofKit
import Derived.OpenShut
import Derived.ChangeSame
namespace Go.Proofs.Ytpdknjbhnelidaa
open Go.ChangeShapes Go.WideShapes Go.ChangeAt Go.WideMaps Go.WideElems Go.RowKit Go.Joins

theorem own : ownKnob Try.prog.godebug = none := by kernel_rfl
theorem bd_i64 {n : Int} (h : (Lit.int .i64 n).wf = true) : B64 n := by
  have e1 : IntKind.i64.min = -9223372036854775808 := rfl
  have e2 : IntKind.i64.max = 9223372036854775807 := rfl
  simp [Lit.wf, e1, e2] at h
  unfold B64
  omega
theorem bd_u8 {n : Int} (h : (Lit.int .u8 n).wf = true) : 0 ≤ n ∧ n ≤ 255 := by
  have e1 : IntKind.u8.min = 0 := rfl
  have e2 : IntKind.u8.max = 255 := rfl
  simp [Lit.wf, e1, e2] at h
  omega
theorem ok64 {r : Qn.R} (h : Qn.RO r) : B64 r.1 := ⟨by have := h.2.2.1; omega, by have := h.2.2.2.1; omega⟩
theorem cells_int : Try.prog.cellsOf 3 = 1 := by kernel_rfl
theorem cells_string : Try.prog.cellsOf 9 = 1 := by kernel_rfl
theorem cells_ratio : Try.prog.cellsOf 31 = 2 := by kernel_rfl
theorem cells_amount : Try.prog.cellsOf 33 = 3 := by kernel_rfl
theorem cells_unit : Try.prog.cellsOf 44 = 5 := by kernel_rfl
/-- the number, the text in a cell -/
def numAt (w : World) (a : Addr) : Int := match w.cell? a with | some (.int _ x) => x | _ => 0
theorem numAt_of {w : World} {a : Addr} {k : IntKind} {x : Int} (h : w.cell? a = some (.int k x)) : numAt w a = x := by unfold numAt; rw [h]
def txtAt (w : World) (a : Addr) : List UInt8 := match w.cell? a with | some (.string s) => s.data.toList | _ => []
theorem txtAt_of {w : World} {a : Addr} {s : ByteArray} (h : w.cell? a = some (.string s)) : txtAt w a = s.data.toList := by unfold txtAt; rw [h]
theorem txt_back (s : ByteArray) : (⟨s.data.toList.toArray⟩ : ByteArray) = s := by apply ByteArray.ext; simp
theorem ratio_cells {H : Type} {enc : TypeId × Value → H} {W : World} {sp : Nat → Bool} {held : Bool} {b0 : Nat} {n : Nat} {c0 c1 : Value} {y : DataW H × List MemPlace} (h : DataW.trod enc Try.prog W b0 sp held n 31 [c0, c1] = some y) :
    ∃ x z : Int, c0 = .int .i64 x ∧ c1 = .int .i64 z ∧ (Lit.int .i64 x).wf = true ∧ (Lit.int .i64 z).wf = true := by
  obtain ⟨y0, y1, m, _, _, h1, h2⟩ := trod_struct2 Try.underlying31 h
  have k1 : DataW.trod enc Try.prog W b0 sp held m 3 [c0] = some y0 := by
    have := h1
    simp only [cells_int] at this
    exact this
  have k2 : DataW.trod enc Try.prog W b0 sp held m 3 [c1] = some y1 := by
    have := h2
    simp only [cells_int] at this
    exact this
  obtain ⟨x, ex, _, wx⟩ := DataW.trod_int Try.underlying3 k1
  obtain ⟨z, ez, _, wz⟩ := DataW.trod_int Try.underlying3 k2
  simp only [List.cons.injEq, and_true] at ex ez
  exact ⟨x, z, ex, ez, wx, wz⟩
theorem amount_cells {H : Type} {enc : TypeId × Value → H} {W : World} {sp : Nat → Bool} {held : Bool} {b0 : Nat} {n : Nat} {c0 c1 c2 : Value} {y : DataW H × List MemPlace} (h : DataW.trod enc Try.prog W b0 sp held n 33 [c0, c1, c2] = some y) :
    ∃ u x z : Int, c0 = .int .i64 u ∧ c1 = .int .i64 x ∧ c2 = .int .i64 z ∧ (Lit.int .i64 u).wf = true ∧ (Lit.int .i64 x).wf = true ∧ (Lit.int .i64 z).wf = true := by
  obtain ⟨y0, y1, m, _, _, h1, h2⟩ := trod_struct2 Try.underlying33 h
  have k1 : DataW.trod enc Try.prog W b0 sp held m 3 [c0] = some y0 := by
    have := h1
    simp only [cells_int] at this
    exact this
  have k2 : DataW.trod enc Try.prog W b0 sp held m 31 [c1, c2] = some y1 := by
    have := h2
    simp only [cells_ratio] at this
    exact this
  obtain ⟨u, eu, _, wu⟩ := DataW.trod_int Try.underlying3 k1
  obtain ⟨x, z, ex, ez, wx, wz⟩ := ratio_cells k2
  simp only [List.cons.injEq, and_true] at eu
  exact ⟨u, x, z, eu, ex, ez, wu, wx, wz⟩
theorem unit_cells {H : Type} {enc : TypeId × Value → H} {W : World} {sp : Nat → Bool} {held : Bool} {b0 : Nat} {n : Nat} {c0 c1 c2 c3 c4 : Value} {y : DataW H × List MemPlace} (h : DataW.trod enc Try.prog W b0 sp held n 44 [c0, c1, c2, c3, c4] = some y) :
    ∃ (s : ByteArray) (k b x z : Int), c0 = .string s ∧ c1 = .int .i64 k ∧ c2 = .int .i64 b ∧ c3 = .int .i64 x ∧ c4 = .int .i64 z ∧ s.size ≤ maxLen ∧ (Lit.int .i64 b).wf = true ∧ (Lit.int .i64 x).wf = true ∧ (Lit.int .i64 z).wf = true := by
  obtain ⟨xs, m, _, _, _, hxs, hel⟩ := DataW.trod_struct Try.underlying44 h
  have h0 : DataW.trod enc Try.prog W b0 sp held m 9 (List.take (Try.prog.cellsOf 9) (List.drop 0 [c0, c1, c2, c3, c4])) = xs[0]? := hel 0 _ rfl
  rw [cells_string] at h0
  have h1 : DataW.trod enc Try.prog W b0 sp held m 3 (List.take (Try.prog.cellsOf 3) (List.drop 1 [c0, c1, c2, c3, c4])) = xs[1]? := hel 1 _ rfl
  rw [cells_int] at h1
  have h2 : DataW.trod enc Try.prog W b0 sp held m 3 (List.take (Try.prog.cellsOf 3) (List.drop 2 [c0, c1, c2, c3, c4])) = xs[2]? := hel 2 _ rfl
  rw [cells_int] at h2
  have h3 : DataW.trod enc Try.prog W b0 sp held m 31 (List.take (Try.prog.cellsOf 31) (List.drop 3 [c0, c1, c2, c3, c4])) = xs[3]? := hel 3 _ rfl
  rw [cells_ratio] at h3
  have hn : xs.length = 4 := hxs
  rw [List.getElem?_eq_getElem (by omega)] at h0 h1 h2 h3
  have k0 : DataW.trod enc Try.prog W b0 sp held m 9 [c0] = some xs[0] := h0
  have k1 : DataW.trod enc Try.prog W b0 sp held m 3 [c1] = some xs[1] := h1
  have k2 : DataW.trod enc Try.prog W b0 sp held m 3 [c2] = some xs[2] := h2
  have k3 : DataW.trod enc Try.prog W b0 sp held m 31 [c3, c4] = some xs[3] := h3
  obtain ⟨s, es, _, ws⟩ := DataW.trod_string Try.underlying9 k0
  obtain ⟨k, ek, _, _⟩ := DataW.trod_int Try.underlying3 k1
  obtain ⟨b, eb, _, wb⟩ := DataW.trod_int Try.underlying3 k2
  obtain ⟨x, z, ex, ez, wx, wz⟩ := ratio_cells k3
  simp only [List.cons.injEq, and_true] at es ek eb
  exact ⟨s, k, b, x, z, es, ek, eb, ex, ez, ws, wb, wx, wz⟩
theorem open_ratio {H : Type} {enc : TypeId × Value → H} {W : World} {base : Nat} {sp : Nat → Bool} {held : Bool} {b0 : Nat} {v : Value} {d : DataW H} {p : List MemPlace} (h : Value.okWide Try.prog W .any base 31 v) (h0 : DataW.Trod enc Try.prog W b0 sp held 31 v d p) :
    ∃ r : Qn.R, v = .agg #[.int .i64 r.1, .int .i64 r.2] ∧ B64 r.1 ∧ B64 r.2 := by
  obtain ⟨cs, rfl, hsz⟩ := okWide_struct Try.underlying31 h
  obtain ⟨fuel, hf⟩ := h0
  obtain ⟨l⟩ := cs
  have hl : l.length = 2 := hsz.trans cells_ratio
  match l, hl with
  | [c0, c1], _ =>
    obtain ⟨x, z, rfl, rfl, wx, wz⟩ := ratio_cells hf
    exact ⟨(x, z), rfl, bd_i64 wx, bd_i64 wz⟩
theorem open_amount {H : Type} {enc : TypeId × Value → H} {W : World} {base : Nat} {sp : Nat → Bool} {held : Bool} {b0 : Nat} {v : Value} {d : DataW H} {p : List MemPlace} (h : Value.okWide Try.prog W .any base 33 v) (h0 : DataW.Trod enc Try.prog W b0 sp held 33 v d p) :
    ∃ a : Qn.Am, v = .agg #[.int .i64 a.1, .int .i64 a.2.1, .int .i64 a.2.2] ∧ B64 a.1 ∧ B64 a.2.1 := by
  obtain ⟨cs, rfl, hsz⟩ := okWide_struct Try.underlying33 h
  obtain ⟨fuel, hf⟩ := h0
  obtain ⟨l⟩ := cs
  have hl : l.length = 3 := hsz.trans cells_amount
  match l, hl with
  | [c0, c1, c2], _ =>
    obtain ⟨u, x, z, rfl, rfl, rfl, wu, wx, wz⟩ := amount_cells hf
    exact ⟨(u, x, z), rfl, bd_i64 wu, bd_i64 wx⟩
theorem slice_cells {v x : Value} (h : v.cells.toList = [x]) (hs : ∃ a n c, v = .slice a n c) : v = x := by
  obtain ⟨a, n, c, rfl⟩ := hs
  simpa [Value.cells] using h
theorem open_ratios {H : Type} {enc : TypeId × Value → H} {W : World} {base : Nat} {sp : Nat → Bool} {held : Bool} {b0 : Nat} {v : Value} {d : DataW H} {p : List MemPlace} (h : Value.okWide Try.prog W .any base 24 v) (h0 : DataW.Trod enc Try.prog W b0 sp held 24 v d p) :
    ∃ (a : Option Addr) (cap : Nat) (l : List Qn.R), v = .slice a l.length cap ∧ l.length ≤ cap ∧ Rats W a l ∧ (∀ x ∈ l, B64 x.2) := by
  have hs := okWide_slice Try.underlying24 h
  obtain ⟨fuel, hf⟩ := h0
  rcases DataW.trod_slice Try.underlying24 hf with ⟨hcs, _⟩ | ⟨a, len, cap, elems, rest, m, _, hcs, _, _, hlc, _, hlen, hel, _⟩
  · exact ⟨none, 0, [], slice_cells hcs hs, Nat.le_refl _, ⟨(fun x hx => by cases hx), .inl rfl⟩, (fun x hx => by cases hx)⟩
  · rw [cells_ratio] at hel
    have each : ∀ i, i < len → ∃ u : Qn.R, (((numAt W ((a.add (i * 2)).add 0), numAt W ((a.add (i * 2)).add 1))) = u ∧ W.cell? ((a.add (i * 2)).add 0) = some (.int .i64 u.1) ∧ W.cell? ((a.add (i * 2)).add 1) = some (.int .i64 u.2)) ∧ (B64 u.1 ∧ B64 u.2) := fun i hi => by
      have e := hel i hi
      rw [List.getElem?_eq_getElem (by omega), Option.bind_eq_some_iff] at e
      obtain ⟨cs, hcs, ht⟩ := e
      obtain ⟨_, hl, hat⟩ := World.cells?_some hcs
      match cs, hl with
      | [c0, c1], _ =>
        obtain ⟨x, z, rfl, rfl, wx, wz⟩ := ratio_cells ht
        have q0 := hat 0 (by omega)
        have q1 := hat 1 (by omega)
        exact ⟨(x, z), ⟨by rw [numAt_of q0, numAt_of q1], q0, q1⟩, bd_i64 wx, bd_i64 wz⟩
    refine ⟨some a, cap, (List.range len).map fun i => (numAt W ((a.add (i * 2)).add 0), numAt W ((a.add (i * 2)).add 1)), by rw [slice_cells hcs hs]; simp, by simpa using hlc, ⟨fun x hx => ?_, ?_⟩, fun x hx => ?_⟩
    · rw [List.mem_map] at hx
      obtain ⟨i, hi, rfl⟩ := hx
      obtain ⟨_, ⟨rfl, _⟩, w⟩ := each i (List.mem_range.1 hi)
      exact w.1
    · by_cases h0 : len = 0
      · subst h0; exact .inl rfl
      · obtain ⟨b, off, spot⟩ := a
        obtain ⟨u, ⟨_, hx⟩, _⟩ := each 0 (by omega)
        have hspot : spot = none := by simpa [Addr.add] using World.cell?_spot hx.1
        subst hspot
        refine .inr ⟨b, off, rfl, fun j x hj => ?_⟩
        rw [List.getElem?_map, Option.map_eq_some_iff] at hj
        obtain ⟨i, hi, rfl⟩ := hj
        have hji := List.getElem?_eq_some_iff.1 hi
        obtain ⟨hjl, hjv⟩ := hji
        simp only [List.length_range, List.getElem_range] at hjl hjv
        subst hjv
        obtain ⟨_, ⟨rfl, hc⟩, _⟩ := each j hjl
        simpa only [Go.WideShapes.add_plain, RCell, Nat.add_assoc, Nat.add_zero] using hc
    · rw [List.mem_map] at hx
      obtain ⟨i, hi, rfl⟩ := hx
      obtain ⟨_, ⟨rfl, _⟩, w⟩ := each i (List.mem_range.1 hi)
      exact w.2
theorem open_amounts {H : Type} {enc : TypeId × Value → H} {W : World} {base : Nat} {sp : Nat → Bool} {held : Bool} {b0 : Nat} {v : Value} {d : DataW H} {p : List MemPlace} (h : Value.okWide Try.prog W .any base 23 v) (h0 : DataW.Trod enc Try.prog W b0 sp held 23 v d p) :
    ∃ (a : Option Addr) (cap : Nat) (l : List Qn.Am), v = .slice a l.length cap ∧ l.length ≤ cap ∧ Amts W a l ∧ (∀ x ∈ l, B64 x.1) := by
  have hs := okWide_slice Try.underlying23 h
  obtain ⟨fuel, hf⟩ := h0
  rcases DataW.trod_slice Try.underlying23 hf with ⟨hcs, _⟩ | ⟨a, len, cap, elems, rest, m, _, hcs, _, _, hlc, _, hlen, hel, _⟩
  · exact ⟨none, 0, [], slice_cells hcs hs, Nat.le_refl _, ⟨(fun x hx => by cases hx), .inl rfl⟩, (fun x hx => by cases hx)⟩
  · rw [cells_amount] at hel
    have each : ∀ i, i < len → ∃ u : Qn.Am, (((numAt W ((a.add (i * 3)).add 0), numAt W ((a.add (i * 3)).add 1), numAt W ((a.add (i * 3)).add 2))) = u ∧ W.cell? ((a.add (i * 3)).add 0) = some (.int .i64 u.1) ∧ W.cell? ((a.add (i * 3)).add 1) = some (.int .i64 u.2.1) ∧ W.cell? ((a.add (i * 3)).add 2) = some (.int .i64 u.2.2)) ∧ (B64 u.2.1 ∧ B64 u.1) := fun i hi => by
      have e := hel i hi
      rw [List.getElem?_eq_getElem (by omega), Option.bind_eq_some_iff] at e
      obtain ⟨cs, hcs, ht⟩ := e
      obtain ⟨_, hl, hat⟩ := World.cells?_some hcs
      match cs, hl with
      | [c0, c1, c2], _ =>
        obtain ⟨u, x, z, rfl, rfl, rfl, wu, wx, wz⟩ := amount_cells ht
        have q0 := hat 0 (by omega)
        have q1 := hat 1 (by omega)
        have q2 := hat 2 (by omega)
        exact ⟨(u, x, z), ⟨by rw [numAt_of q0, numAt_of q1, numAt_of q2], q0, q1, q2⟩, bd_i64 wx, bd_i64 wu⟩
    refine ⟨some a, cap, (List.range len).map fun i => (numAt W ((a.add (i * 3)).add 0), numAt W ((a.add (i * 3)).add 1), numAt W ((a.add (i * 3)).add 2)), by rw [slice_cells hcs hs]; simp, by simpa using hlc, ⟨fun x hx => ?_, ?_⟩, fun x hx => ?_⟩
    · rw [List.mem_map] at hx
      obtain ⟨i, hi, rfl⟩ := hx
      obtain ⟨_, ⟨rfl, _⟩, w⟩ := each i (List.mem_range.1 hi)
      exact w.1
    · by_cases h0 : len = 0
      · subst h0; exact .inl rfl
      · obtain ⟨b, off, spot⟩ := a
        obtain ⟨u, ⟨_, hx⟩, _⟩ := each 0 (by omega)
        have hspot : spot = none := by simpa [Addr.add] using World.cell?_spot hx.1
        subst hspot
        refine .inr ⟨b, off, rfl, fun j x hj => ?_⟩
        rw [List.getElem?_map, Option.map_eq_some_iff] at hj
        obtain ⟨i, hi, rfl⟩ := hj
        have hji := List.getElem?_eq_some_iff.1 hi
        obtain ⟨hjl, hjv⟩ := hji
        simp only [List.length_range, List.getElem_range] at hjl hjv
        subst hjv
        obtain ⟨_, ⟨rfl, hc⟩, _⟩ := each j hjl
        simpa only [Go.WideShapes.add_plain, ACell, Nat.add_assoc, Nat.add_zero] using hc
    · rw [List.mem_map] at hx
      obtain ⟨i, hi, rfl⟩ := hx
      obtain ⟨_, ⟨rfl, _⟩, w⟩ := each i (List.mem_range.1 hi)
      exact w.2
theorem open_units {H : Type} {enc : TypeId × Value → H} {W : World} {base : Nat} {sp : Nat → Bool} {held : Bool} {b0 : Nat} {v : Value} {d : DataW H} {p : List MemPlace} (h : Value.okWide Try.prog W .any base 22 v) (h0 : DataW.Trod enc Try.prog W b0 sp held 22 v d p) :
    ∃ (a : Option Addr) (cap : Nat) (l : List Qn.Un), v = .slice a l.length cap ∧ l.length ≤ cap ∧ Tab W a l ∧ (∀ x ∈ l, B64 x.base) := by
  have hs := okWide_slice Try.underlying22 h
  obtain ⟨fuel, hf⟩ := h0
  rcases DataW.trod_slice Try.underlying22 hf with ⟨hcs, _⟩ | ⟨a, len, cap, elems, rest, m, _, hcs, _, _, hlc, _, hlen, hel, _⟩
  · exact ⟨none, 0, [], slice_cells hcs hs, Nat.le_refl _, ⟨(fun x hx => by cases hx), .inl rfl⟩, (fun x hx => by cases hx)⟩
  · rw [cells_unit] at hel
    have each : ∀ i, i < len → ∃ u : Qn.Un, (((⟨txtAt W ((a.add (i * 5)).add 0), numAt W ((a.add (i * 5)).add 1), numAt W ((a.add (i * 5)).add 2), (numAt W ((a.add (i * 5)).add 3), numAt W ((a.add (i * 5)).add 4))⟩ : Qn.Un)) = u ∧ W.cell? ((a.add (i * 5)).add 0) = some (.string ⟨u.nm.toArray⟩) ∧ W.cell? ((a.add (i * 5)).add 1) = some (.int .i64 u.kd) ∧ W.cell? ((a.add (i * 5)).add 2) = some (.int .i64 u.base) ∧ W.cell? ((a.add (i * 5)).add 3) = some (.int .i64 u.fac.1) ∧ W.cell? ((a.add (i * 5)).add 4) = some (.int .i64 u.fac.2)) ∧ (B64 u.fac.1 ∧ B64 u.base) := fun i hi => by
      have e := hel i hi
      rw [List.getElem?_eq_getElem (by omega), Option.bind_eq_some_iff] at e
      obtain ⟨cs, hcs, ht⟩ := e
      obtain ⟨_, hl, hat⟩ := World.cells?_some hcs
      match cs, hl with
      | [c0, c1, c2, c3, c4], _ =>
        obtain ⟨s, k, b, x, z, rfl, rfl, rfl, rfl, rfl, ws, wb, wx, wz⟩ := unit_cells ht
        have q0 := hat 0 (by omega)
        have q1 := hat 1 (by omega)
        have q2 := hat 2 (by omega)
        have q3 := hat 3 (by omega)
        have q4 := hat 4 (by omega)
        exact ⟨⟨s.data.toList, k, b, (x, z)⟩, ⟨by rw [txtAt_of q0, numAt_of q1, numAt_of q2, numAt_of q3, numAt_of q4], by rw [txt_back]; exact q0, q1, q2, q3, q4⟩, bd_i64 wx, bd_i64 wb⟩
    refine ⟨some a, cap, (List.range len).map fun i => (⟨txtAt W ((a.add (i * 5)).add 0), numAt W ((a.add (i * 5)).add 1), numAt W ((a.add (i * 5)).add 2), (numAt W ((a.add (i * 5)).add 3), numAt W ((a.add (i * 5)).add 4))⟩ : Qn.Un), by rw [slice_cells hcs hs]; simp, by simpa using hlc, ⟨fun x hx => ?_, ?_⟩, fun x hx => ?_⟩
    · rw [List.mem_map] at hx
      obtain ⟨i, hi, rfl⟩ := hx
      obtain ⟨_, ⟨rfl, _⟩, w⟩ := each i (List.mem_range.1 hi)
      exact w.1
    · by_cases h0 : len = 0
      · subst h0; exact .inl rfl
      · obtain ⟨b, off, spot⟩ := a
        obtain ⟨u, ⟨_, hx⟩, _⟩ := each 0 (by omega)
        have hspot : spot = none := by simpa [Addr.add] using World.cell?_spot hx.1
        subst hspot
        refine .inr ⟨b, off, rfl, fun j x hj => ?_⟩
        rw [List.getElem?_map, Option.map_eq_some_iff] at hj
        obtain ⟨i, hi, rfl⟩ := hj
        have hji := List.getElem?_eq_some_iff.1 hi
        obtain ⟨hjl, hjv⟩ := hji
        simp only [List.length_range, List.getElem_range] at hjl hjv
        subst hjv
        obtain ⟨_, ⟨rfl, hc⟩, _⟩ := each j hjl
        simpa only [Go.WideShapes.add_plain, UCell, Nat.add_assoc, Nat.add_zero] using hc
    · rw [List.mem_map] at hx
      obtain ⟨i, hi, rfl⟩ := hx
      obtain ⟨_, ⟨rfl, _⟩, w⟩ := each i (List.mem_range.1 hi)
      exact w.2
end Go.Proofs.Ytpdknjbhnelidaa

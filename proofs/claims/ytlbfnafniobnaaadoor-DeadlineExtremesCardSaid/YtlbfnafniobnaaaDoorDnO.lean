/- Opening a list of events, a term, a list of terms that are handed over. -/
import Derived.Test.YtlbfnafniobnaaaDoorDlY
import Derived.Test.YtlbfnafniobnaaaDoorDtOc
import Derived.ChangeSame
import Derived.Deep.Strs
namespace Go.Proofs.YtlbfnafniobnaaaDoor
open Go.ChangeShapes Go.WideShapes Go.ChangeAt Go.WideMaps Go.WideElems Go.RowKit Go.Joins Go.Shelf

theorem bd_u8 {n : Int} (h : (Lit.int .u8 n).wf = true) : 0 ≤ n ∧ n ≤ 255 := by
  have e1 : IntKind.u8.min = 0 := rfl
  have e2 : IntKind.u8.max = 255 := rfl
  simp [Lit.wf, e1, e2] at h
  omega
theorem cells_when : Tryd.prog.cellsOf 42 = 3 := by kernel_rfl
/-- the number, the truth value in a cell -/
def numAt (w : World) (a : Addr) : Int := match w.cell? a with | some (.int _ x) => x | _ => 0
theorem numAt_of {w : World} {a : Addr} {k : IntKind} {x : Int} (h : w.cell? a = some (.int k x)) : numAt w a = x := by unfold numAt; rw [h]
def bitAt (w : World) (a : Addr) : Bool := match w.cell? a with | some (.bool x) => x | _ => false
theorem bitAt_of {w : World} {a : Addr} {x : Bool} (h : w.cell? a = some (.bool x)) : bitAt w a = x := by unfold bitAt; rw [h]
theorem when_cells {H : Type} {enc : TypeId × Value → H} {W : World} {sp : Nat → Bool} {held : Bool} {b0 : Nat} {n : Nat} {c0 c1 c2 : Value} {y : DataW H × List MemPlace} (h : DataW.trod enc Tryd.prog W b0 sp held n 42 [c0, c1, c2] = some y) :
    ∃ (k : Bool) (x z : Int), c0 = .bool k ∧ c1 = .int .i64 x ∧ c2 = .int .i64 z := by
  obtain ⟨y0, y1, y2, m, _, _, h1, h2, h3⟩ := Go.Deep.trod_struct3 Tryd.underlying42 h
  have k1 : DataW.trod enc Tryd.prog W b0 sp held m 4 [c0] = some y0 := by
    have := h1
    simp only [cells_bool] at this
    exact this
  have k2 : DataW.trod enc Tryd.prog W b0 sp held m 3 [c1] = some y1 := by
    have := h2
    simp only [cells_oneint] at this
    exact this
  have k3 : DataW.trod enc Tryd.prog W b0 sp held m 3 [c2] = some y2 := by
    have := h3
    simp only [cells_oneint] at this
    exact this
  obtain ⟨k, ek, _⟩ := DataW.trod_bool Tryd.underlying4 k1
  obtain ⟨x, ex, _, _⟩ := DataW.trod_int Tryd.underlying3 k2
  obtain ⟨z, ez, _, _⟩ := DataW.trod_int Tryd.underlying3 k3
  simp only [List.cons.injEq, and_true] at ek ex ez
  exact ⟨k, x, z, ek, ex, ez⟩
theorem slice_cells {v x : Value} (h : v.cells.toList = [x]) (hs : ∃ a n c, v = .slice a n c) : v = x := by
  obtain ⟨a, n, c, rfl⟩ := hs
  simpa [Value.cells] using h
set_option maxRecDepth 100000 in
theorem open_whens {H : Type} {enc : TypeId × Value → H} {W : World} {base : Nat} {sp : Nat → Bool} {held : Bool} {b0 : Nat} {v : Value} {d : DataW H} {p : List MemPlace} (h : Value.okWide Tryd.prog W .any base 29 v) (h0 : DataW.Trod enc Tryd.prog W b0 sp held 29 v d p) :
    ∃ (a : Option Addr) (cap : Nat) (l : List Wh), v = .slice a l.length cap ∧ EvAt W a l := by
  have hs := okWide_slice Tryd.underlying29 h
  obtain ⟨fuel, hf⟩ := h0
  rcases DataW.trod_slice Tryd.underlying29 hf with ⟨hcs, _⟩ | ⟨a, len, cap, elems, rest, m, _, hcs, _, _, hlc, _, hlen, hel, _⟩
  · exact ⟨none, 0, [], slice_cells hcs hs, .inl rfl⟩
  · rw [cells_when] at hel
    have each : ∀ i, i < len → ∃ u : Wh, (⟨bitAt W ((a.add (i * 3)).add 0), numAt W ((a.add (i * 3)).add 1), numAt W ((a.add (i * 3)).add 2)⟩ : Wh) = u ∧ W.cell? ((a.add (i * 3)).add 0) = some (.bool u.known) ∧ W.cell? ((a.add (i * 3)).add 1) = some (.int .i64 u.day) ∧ W.cell? ((a.add (i * 3)).add 2) = some (.int .i64 u.minute) := fun i hi => by
      have e := hel i hi
      rw [List.getElem?_eq_getElem (by omega), Option.bind_eq_some_iff] at e
      obtain ⟨cs, hcs, ht⟩ := e
      obtain ⟨_, hl, hat⟩ := World.cells?_some hcs
      match cs, hl with
      | [c0, c1, c2], _ =>
        obtain ⟨k, x, z, rfl, rfl, rfl⟩ := when_cells ht
        have q0 := hat 0 (by omega)
        have q1 := hat 1 (by omega)
        have q2 := hat 2 (by omega)
        exact ⟨⟨k, x, z⟩, by rw [bitAt_of q0, numAt_of q1, numAt_of q2], q0, q1, q2⟩
    refine ⟨some a, cap, (List.range len).map fun i => (⟨bitAt W ((a.add (i * 3)).add 0), numAt W ((a.add (i * 3)).add 1), numAt W ((a.add (i * 3)).add 2)⟩ : Wh), by rw [slice_cells hcs hs]; simp, ?_⟩
    by_cases h0 : len = 0
    · subst h0; exact .inl rfl
    · obtain ⟨b, off, spot⟩ := a
      obtain ⟨u, _, hx⟩ := each 0 (by omega)
      have hspot : spot = none := by simpa [Addr.add] using World.cell?_spot hx.1
      subst hspot
      refine .inr ⟨b, off, rfl, fun j x hj => ?_⟩
      rw [List.getElem?_map, Option.map_eq_some_iff] at hj
      obtain ⟨i, hi, rfl⟩ := hj
      obtain ⟨hjl, hjv⟩ := List.getElem?_eq_some_iff.1 hi
      simp only [List.length_range, List.getElem_range] at hjl hjv
      subst hjv
      obtain ⟨_, rfl, hc⟩ := each j hjl
      simpa only [Go.WideShapes.add_plain, WhC, Nat.add_assoc, Nat.add_zero] using hc
mutual
/-- as many kids as a slice may have, all the way down -/
def LenOK : Dl.T → Prop
  | .node _ _ _ _ _ _ l => l.length ≤ maxLen ∧ LenOKL l
def LenOKL : List Dl.T → Prop
  | [] => True
  | k :: l => LenOK k ∧ LenOKL l
end
theorem lenL_all : ∀ {l : List Dl.T}, LenOKL l ↔ ∀ k ∈ l, LenOK k
  | [] => by simp [LenOKL]
  | k :: l => by simp [LenOKL, lenL_all (l := l)]
theorem len_iff {t : Dl.T} : LenOK t ↔ t.kids.length ≤ maxLen ∧ ∀ k ∈ t.kids, LenOK k := by
  cases t
  rw [LenOK, lenL_all]
  rfl
theorem list_of {α : Type} {P : Nat → α → Prop} : ∀ n : Nat, (∀ i, i < n → ∃ x, P i x) → ∃ l : List α, l.length = n ∧ ∀ i x, l[i]? = some x → P i x
  | 0, _ => ⟨[], rfl, by simp⟩
  | n + 1, h => by
    obtain ⟨l, hl, hp⟩ := list_of n (fun i hi => h i (by omega))
    obtain ⟨x, hx⟩ := h n (by omega)
    refine ⟨l ++ [x], by simp [hl], fun i y hy => ?_⟩
    rcases Nat.lt_trichotomy i n with hi | hi | hi
    · rw [List.getElem?_append_left (by omega)] at hy
      exact hp i y hy
    · subst hi
      rw [← hl, List.getElem?_append_right (Nat.le_refl _)] at hy
      simp at hy
      subst hy
      exact hx
    · have := (List.getElem?_eq_some_iff.1 hy).1
      simp at this
      omega
theorem cells_term : Tryd.prog.cellsOf 24 = 5 := by kernel_rfl
theorem cells_terms : Tryd.prog.cellsOf 22 = 1 := by kernel_rfl
theorem cells_onebool : Tryd.prog.cellsOf 4 = 1 := by kernel_rfl
set_option maxRecDepth 100000 in
/-- the terms of a slice's elements -/
theorem elems_terms {H : Type} {enc : TypeId × Value → H} {W : World} {sp : Nat → Bool} {held : Bool} {b0 m len : Nat} {a : Addr} {elems : List (DataW H × List MemPlace)}
    (IH : ∀ cs y, DataW.trod enc Tryd.prog W b0 sp held m 24 cs = some y → ∃ t : Dl.T, cs = (TCells t).toList ∧ TAt W t ∧ LenOK t)
    (hlen : elems.length = len) (hel : ∀ i, i < len → (W.cells? b0 (a.add (i * 5)) 5).bind (DataW.trod enc Tryd.prog W b0 sp held m 24) = elems[i]?) :
    ∃ l : List Dl.T, l.length = len ∧ (∀ k ∈ l, TAt W k ∧ LenOK k) ∧ ∀ (j : Nat) k, l[j]? = some k → ∃ b off, some a = some ⟨b, off, none⟩ ∧ b < W.heap.size ∧ KCell W b (off + j * 5) k := by
  have each0 : ∀ i, i < len → ∃ t : Dl.T, (TAt W t ∧ LenOK t) ∧ W.cell? ((a.add (i * 5)).add 0) = some (.int .i64 t.kd) ∧ W.cell? ((a.add (i * 5)).add 1) = some (.int .i64 t.n) ∧ W.cell? ((a.add (i * 5)).add 2) = some (.int .i64 t.ev) ∧ W.cell? ((a.add (i * 5)).add 3) = some (.bool t.bz) ∧ W.cell? ((a.add (i * 5)).add 4) = some (.slice t.p t.kids.length t.cap) := fun i hi => by
    have e := hel i hi
    rw [List.getElem?_eq_getElem (by omega), Option.bind_eq_some_iff] at e
    obtain ⟨cs, hcs, ht⟩ := e
    obtain ⟨_, hl, hat⟩ := World.cells?_some hcs
    obtain ⟨t, rfl, h1, h2⟩ := IH cs _ ht
    exact ⟨t, ⟨h1, h2⟩, hat 0 (by omega), hat 1 (by omega), hat 2 (by omega), hat 3 (by omega), hat 4 (by omega)⟩
  by_cases h0 : len = 0
  · exact ⟨[], h0.symm, fun k hk => (by cases hk), fun j k hj => (by simp at hj)⟩
  obtain ⟨b, off, spot⟩ := a
  obtain ⟨_, _, q, _⟩ := each0 0 (by omega)
  have hspot : spot = none := by simpa [Addr.add] using World.cell?_spot q
  subst hspot
  have each : ∀ i, i < len → ∃ t : Dl.T, (TAt W t ∧ LenOK t) ∧ b < W.heap.size ∧ KCell W b (off + i * 5) t := fun i hi => by
    obtain ⟨t, ht, q0, q1, q2, q3, q4⟩ := each0 i hi
    simp only [Go.WideShapes.add_plain, Nat.add_zero] at q0 q1 q2 q3 q4
    exact ⟨t, ht, World.block_lt_of_cell? _ _ q0, q0, q1, q2, q3, q4⟩
  obtain ⟨l, hl, hp⟩ := list_of len each
  refine ⟨l, hl, fun k hk => ?_, fun j k hj => ⟨b, off, rfl, (hp j k hj).2⟩⟩
  obtain ⟨j, hj⟩ := List.getElem?_of_mem hk
  exact (hp j k hj).1
set_option maxRecDepth 100000 in
theorem term_cells {H : Type} {enc : TypeId × Value → H} {W : World} {sp : Nat → Bool} {held : Bool} {b0 : Nat} (n : Nat) : ∀ cs y, DataW.trod enc Tryd.prog W b0 sp held n 24 cs = some y → ∃ t : Dl.T, cs = (TCells t).toList ∧ TAt W t ∧ LenOK t := by
  induction n using Nat.strongRecOn with
  | ind n ih =>
    intro cs y h
    obtain ⟨xs, m, hm, _, hcl, hxs, hel⟩ := DataW.trod_struct Tryd.underlying24 h
    rw [cells_term] at hcl
    match cs, hcl with
    | [c0, c1, c2, c3, c4], _ =>
      have h0 : DataW.trod enc Tryd.prog W b0 sp held m 3 (List.take (Tryd.prog.cellsOf 3) (List.drop 0 [c0, c1, c2, c3, c4])) = xs[0]? := hel 0 _ rfl
      have h1 : DataW.trod enc Tryd.prog W b0 sp held m 3 (List.take (Tryd.prog.cellsOf 3) (List.drop 1 [c0, c1, c2, c3, c4])) = xs[1]? := hel 1 _ rfl
      have h2 : DataW.trod enc Tryd.prog W b0 sp held m 3 (List.take (Tryd.prog.cellsOf 3) (List.drop 2 [c0, c1, c2, c3, c4])) = xs[2]? := hel 2 _ rfl
      have h3 : DataW.trod enc Tryd.prog W b0 sp held m 4 (List.take (Tryd.prog.cellsOf 4) (List.drop 3 [c0, c1, c2, c3, c4])) = xs[3]? := hel 3 _ rfl
      have h4 : DataW.trod enc Tryd.prog W b0 sp held m 22 (List.take (Tryd.prog.cellsOf 22) (List.drop 4 [c0, c1, c2, c3, c4])) = xs[4]? := hel 4 _ rfl
      rw [cells_oneint] at h0 h1 h2
      rw [cells_onebool] at h3
      rw [cells_terms] at h4
      have hn : xs.length = 5 := hxs
      rw [List.getElem?_eq_getElem (by omega)] at h0 h1 h2 h3 h4
      have k0 : DataW.trod enc Tryd.prog W b0 sp held m 3 [c0] = some xs[0] := h0
      have k1 : DataW.trod enc Tryd.prog W b0 sp held m 3 [c1] = some xs[1] := h1
      have k2 : DataW.trod enc Tryd.prog W b0 sp held m 3 [c2] = some xs[2] := h2
      have k3 : DataW.trod enc Tryd.prog W b0 sp held m 4 [c3] = some xs[3] := h3
      have k4 : DataW.trod enc Tryd.prog W b0 sp held m 22 [c4] = some xs[4] := h4
      obtain ⟨kd, e0, _, _⟩ := DataW.trod_int Tryd.underlying3 k0
      obtain ⟨nn, e1, _, _⟩ := DataW.trod_int Tryd.underlying3 k1
      obtain ⟨ev, e2, _, _⟩ := DataW.trod_int Tryd.underlying3 k2
      obtain ⟨bz, e3, _⟩ := DataW.trod_bool Tryd.underlying4 k3
      simp only [List.cons.injEq, and_true] at e0 e1 e2 e3
      subst e0 e1 e2 e3
      rcases DataW.trod_slice Tryd.underlying22 k4 with ⟨e4, _⟩ | ⟨a, len, cap, elems, rest, m', hm', e4, _, _, hlc, hcm, hlen, hel4, _⟩
      · simp only [List.cons.injEq, and_true] at e4
        subst e4
        exact ⟨.node kd nn ev bz none 0 [], rfl, tat_leaf _ _ _ _ _ _ _, len_iff.2 ⟨Nat.zero_le _, fun k hk => by cases hk⟩⟩
      · simp only [List.cons.injEq, and_true] at e4
        subst e4
        rw [cells_term] at hel4
        obtain ⟨l, hl, h5, h6⟩ := elems_terms (ih m' (by omega)) hlen hel4
        subst hl
        exact ⟨.node kd nn ev bz (some a) cap l, rfl, tat_mk h6 (fun k hk => (h5 k hk).1), len_iff.2 ⟨show l.length ≤ maxLen by omega, fun k hk => (h5 k hk).2⟩⟩
set_option maxRecDepth 100000 in
theorem open_term {H : Type} {enc : TypeId × Value → H} {W : World} {base : Nat} {sp : Nat → Bool} {held : Bool} {b0 : Nat} {v : Value} {d : DataW H} {p : List MemPlace} (h : Value.okWide Tryd.prog W .any base 24 v) (h0 : DataW.Trod enc Tryd.prog W b0 sp held 24 v d p) :
    ∃ t : Dl.T, v = .agg #[.int .i64 t.kd, .int .i64 t.n, .int .i64 t.ev, .bool t.bz, .slice t.p t.kids.length t.cap] ∧ TAt W t ∧ LenOK t := by
  obtain ⟨cs, rfl, hsz⟩ := okWide_struct Tryd.underlying24 h
  obtain ⟨fuel, hf⟩ := h0
  obtain ⟨t, ht, h1, h2⟩ := term_cells fuel _ _ hf
  refine ⟨t, ?_, h1, h2⟩
  obtain ⟨l⟩ := cs
  have hl : l = (TCells t).toList := ht
  rw [hl]
  rfl
set_option maxRecDepth 100000 in
theorem open_terms {H : Type} {enc : TypeId × Value → H} {W : World} {base : Nat} {sp : Nat → Bool} {held : Bool} {b0 : Nat} {v : Value} {d : DataW H} {p : List MemPlace} (h : Value.okWide Tryd.prog W .any base 22 v) (h0 : DataW.Trod enc Tryd.prog W b0 sp held 22 v d p) :
    ∃ (a : Option Addr) (cap : Nat) (l : List Dl.T), v = .slice a l.length cap ∧ ∀ kd : Int, TAt W (.node kd 0 0 false a cap l) ∧ LenOK (.node kd 0 0 false a cap l) := by
  have hs := okWide_slice Tryd.underlying22 h
  obtain ⟨fuel, hf⟩ := h0
  rcases DataW.trod_slice Tryd.underlying22 hf with ⟨hcs, _⟩ | ⟨a, len, cap, elems, rest, m, _, hcs, _, _, hlc, hcm, hlen, hel, _⟩
  · exact ⟨none, 0, [], slice_cells hcs hs, fun kd => ⟨tat_leaf _ _ _ _ _ _ _, len_iff.2 ⟨Nat.zero_le _, fun k hk => by cases hk⟩⟩⟩
  · rw [cells_term] at hel
    obtain ⟨l, hl, h5, h6⟩ := elems_terms (term_cells m) hlen hel
    subst hl
    exact ⟨some a, cap, l, slice_cells hcs hs, fun kd => ⟨tat_mk h6 (fun k hk => (h5 k hk).1), len_iff.2 ⟨show l.length ≤ maxLen by omega, fun k hk => (h5 k hk).2⟩⟩⟩
end Go.Proofs.YtlbfnafniobnaaaDoor

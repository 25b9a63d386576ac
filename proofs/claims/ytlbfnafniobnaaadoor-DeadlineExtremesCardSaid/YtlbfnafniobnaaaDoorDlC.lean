/- within, fits; the map of shapes: how it is made and read. -/
import Derived.Test.YtlbfnafniobnaaaDoorDlB
import Derived.Carry
import Derived.MapKept
namespace Go.Proofs.YtlbfnafniobnaaaDoor
open Go.RowKit Go.Shelf

theorem within_calls (x a b : Int) (w : World) : Calls Tryd.prog 34 #[.int .i64 x, .int .i64 a, .int .i64 b] w fun e w' => e = .returned (.bool (decide (a ≤ x) && decide (x ≤ b))) ∧ w' = w := by
  by_cases h1 : a ≤ x
  · rw [decide_eq_true h1, Bool.true_and]
    go_enter Tryd.func34, Tryd.ntmps34
    go_wp2_with fail
    go_ret
    exact ⟨rfl, rfl⟩
  · rw [decide_eq_false h1, Bool.false_and]
    go_enter Tryd.func34, Tryd.ntmps34
    go_wp2_with fail
    go_ret
    exact ⟨rfl, rfl⟩
/-- a map whose keys are integers, its entries in the order in which they were laid -/
def ents : Nat → List (Int × Value) → List MapEntry
  | _, [] => []
  | i, (k, v) :: l => { key := .int .i64 k, val := v, born := i } :: ents (i + 1) l
def mapO (l : List (Int × Value)) : Obj := .map (ents 0 l).toArray l.length
theorem ents_snoc (k : Int) (v : Value) : ∀ (l : List (Int × Value)) (i : Nat), ents i (l ++ [(k, v)]) = ents i l ++ [{ key := .int .i64 k, val := v, born := i + l.length }]
  | [], i => rfl
  | (a, b) :: l, i => by
    rw [List.cons_append, ents, ents, ents_snoc k v l (i + 1), List.cons_append, List.length_cons]
    congr 4
    omega
theorem find_none (k : Int) : ∀ (l : List (Int × Value)) (i j : Nat), (∀ x ∈ l, x.1 ≠ k) → Instr.findNow (.int .i64) (.int .i64 k) (ents i l) j = some none
  | [], _, _, _ => rfl
  | (a, b) :: l, i, j, h => by
    have h1 : (k == a) = false := beq_eq_false_iff_ne.2 (fun e => h (a, b) (by simp) e.symm)
    rw [ents, Instr.findNow, Instr.sameNow]
    simp only [if_true, h1]
    exact find_none k l (i + 1) (j + 1) (fun x hx => h x (by simp [hx]))
theorem find_some (k : Int) (v : Value) : ∀ (l : List (Int × Value)) (i j : Nat), l.lookup k = some v → ∃ n, Instr.findNow (.int .i64) (.int .i64 k) (ents i l) j = some (some (n, v))
  | [], _, _, h => by simp at h
  | (a, b) :: l, i, j, h => by
    rw [ents, Instr.findNow, Instr.sameNow]
    simp only [if_true]
    cases h1 : (k == a) with
    | true =>
      rw [List.lookup, h1] at h
      exact ⟨j, by simpa using h⟩
    | false =>
      rw [List.lookup, h1] at h
      exact find_some k v l (i + 1) (j + 1) h
theorem lookup_none (k : Int) : ∀ (l : List (Int × Value)), l.lookup k = none → ∀ x ∈ l, x.1 ≠ k
  | [], _, x, hx => by simp at hx
  | (a, b) :: l, h, x, hx => by
    cases h1 : (k == a) with
    | true => rw [List.lookup, h1] at h; simp at h
    | false =>
      rw [List.lookup, h1] at h
      rcases List.mem_cons.1 hx with rfl | hx
      · exact fun e => (beq_eq_false_iff_ne.1 h1) e.symm
      · exact lookup_none k l h x hx
theorem upd_new {T k e : TypeId} (ht : Tryd.prog.underlying T = some (.map k e)) (hk : Tryd.prog.underlying k = some (.int .i64)) {w W : World} {l : List (Int × Value)} {b : Nat} (hW : W.heap[b]? = some (mapO l)) (hb : Below w.heap.size w W) (hle : w.heap.size ≤ b) (key : Int) (v : Value) (hnew : ∀ x ∈ l, x.1 ≠ key) :
    ∃ W', W'.heap[b]? = some (mapO (l ++ [(key, v)])) ∧ Below w.heap.size w W' ∧ (Instr.mapUpdate T (.map (some b)) (.int .i64 key) v).run Tryd.prog W = .ok () W' := by
  have hlt := (Array.getElem?_eq_some_iff.1 hW).1
  have hf := find_none key l 0 0 hnew
  have hc : (Instr.checkKey false 10000 k (.int .i64 key)).run Tryd.prog W = .ok () W := MapKept.run_checkKey (k := .int .i64 key) hk (by simp [MapKept.IsKey]) false 9999
  refine ⟨{ W with heap := W.heap.setIfInBounds b (mapO (l ++ [(key, v)])) }, (MapKept.heap_set hW).1, ⟨hb.os, hb.tape, hb.output, by simp; exact hb.size, fun j hj => ((MapKept.heap_set (o' := mapO (l ++ [(key, v)])) hW).2 j (by omega)).trans (hb.block j hj)⟩, ?_⟩
  have hW' : W.heap[b]? = some (.map (ents 0 l).toArray l.length) := hW
  simp [Instr.mapUpdate, run_underlying ht, MapKept.run_getObj_map hW', hc, MapKept.run_findKey hk hf, MapKept.run_setObj_map _ hW', Result.andThen, mapO, ents_snoc]
theorem look_at {T k e : TypeId} (ht : Tryd.prog.underlying T = some (.map k e)) (hk : Tryd.prog.underlying k = some (.int .i64)) {z : Value} {W : World} (hz : (zeroValue e).run Tryd.prog W = .ok z W) {l : List (Int × Value)} {b : Nat} (hW : W.heap[b]? = some (mapO l)) (key : Int) (c : Bool) :
    (Instr.lookup T (.map (some b)) (.int .i64 key) c).run Tryd.prog W = .ok (if c then .tuple #[(l.lookup key).getD z, .bool (l.lookup key).isSome] else (l.lookup key).getD z) W := by
  have hW' : W.heap[b]? = some (.map (ents 0 l).toArray l.length) := hW
  have hc : ∀ em, (Instr.checkKey em 10000 k (.int .i64 key)).run Tryd.prog W = .ok () W := fun em => MapKept.run_checkKey (k := .int .i64 key) hk (by simp [MapKept.IsKey]) em 9999
  cases h : l.lookup key with
  | none =>
    have hf := find_none key l 0 0 (lookup_none key l h)
    cases c <;> simp [Instr.lookup, run_underlying ht, MapKept.run_getObj_map hW', hc, MapKept.run_findKey hk hf, Result.andThen, hz]
  | some v =>
    obtain ⟨n, hf⟩ := find_some key v l 0 0 h
    cases c <;> simp [Instr.lookup, run_underlying ht, MapKept.run_getObj_map hW', hc, MapKept.run_findKey hk hf, Result.andThen]
def shapeL : List (Int × Value) := [(1, .agg #[.int .i64 73048, .bool false, .bool false, .int .i64 0, .int .i64 0]), (2, .agg #[.int .i64 0, .bool true, .bool false, .int .i64 0, .int .i64 0]), (3, .agg #[.int .i64 1440, .bool true, .bool false, .int .i64 0, .int .i64 0]), (4, .agg #[.int .i64 1000, .bool false, .bool true, .int .i64 1, .int .i64 1]), (5, .agg #[.int .i64 120, .bool false, .bool false, .int .i64 1, .int .i64 1]), (6, .agg #[.int .i64 0, .bool false, .bool false, .int .i64 1, .int .i64 1]), (7, .agg #[.int .i64 0, .bool false, .bool false, .int .i64 1, .int .i64 40]), (8, .agg #[.int .i64 0, .bool false, .bool false, .int .i64 1, .int .i64 40])]
set_option maxRecDepth 100000 in
theorem shapes_calls (w : World) : Calls Tryd.prog 35 #[] w fun e w' => e = .returned (.map (some w.heap.size)) ∧ w'.heap[w.heap.size]? = some (mapO shapeL) ∧ Below w.heap.size w w' := by
  have hmm := @run_makeMap Tryd.prog
  have ht := Tryd.underlying79
  have hk := Tryd.underlying3
  go_enter Tryd.func35, Tryd.ntmps35
  go_wp2_with fail
  obtain ⟨W0, hW0⟩ : ∃ W, W = w.alloc (.map #[] 0) := ⟨_, rfl⟩
  have h0 : W0.heap[w.heap.size]? = some (mapO []) := by rw [hW0]; exact World.alloc_heap_new w _
  have b0 : Below w.heap.size w W0 := by rw [hW0]; exact (Below.refl _ w).alloc (Nat.le_refl _) _
  rw [← hW0]
  clear hW0 hmm
  obtain ⟨W1, h1, b1, r1⟩ := upd_new ht hk h0 b0 (Nat.le_refl _) 1 (.agg #[.int .i64 73048, .bool false, .bool false, .int .i64 0, .int .i64 0]) (by simp)
  rw [r1]
  go_wp2_with fail
  clear r1 h0 b0
  obtain ⟨W2, h2, b2, r2⟩ := upd_new ht hk h1 b1 (Nat.le_refl _) 2 (.agg #[.int .i64 0, .bool true, .bool false, .int .i64 0, .int .i64 0]) (by simp)
  rw [r2]
  go_wp2_with fail
  clear r2 h1 b1
  obtain ⟨W3, h3, b3, r3⟩ := upd_new ht hk h2 b2 (Nat.le_refl _) 3 (.agg #[.int .i64 1440, .bool true, .bool false, .int .i64 0, .int .i64 0]) (by simp)
  rw [r3]
  go_wp2_with fail
  clear r3 h2 b2
  obtain ⟨W4, h4, b4, r4⟩ := upd_new ht hk h3 b3 (Nat.le_refl _) 4 (.agg #[.int .i64 1000, .bool false, .bool true, .int .i64 1, .int .i64 1]) (by simp)
  rw [r4]
  go_wp2_with fail
  clear r4 h3 b3
  obtain ⟨W5, h5, b5, r5⟩ := upd_new ht hk h4 b4 (Nat.le_refl _) 5 (.agg #[.int .i64 120, .bool false, .bool false, .int .i64 1, .int .i64 1]) (by simp)
  rw [r5]
  go_wp2_with fail
  clear r5 h4 b4
  obtain ⟨W6, h6, b6, r6⟩ := upd_new ht hk h5 b5 (Nat.le_refl _) 6 (.agg #[.int .i64 0, .bool false, .bool false, .int .i64 1, .int .i64 1]) (by simp)
  rw [r6]
  go_wp2_with fail
  clear r6 h5 b5
  obtain ⟨W7, h7, b7, r7⟩ := upd_new ht hk h6 b6 (Nat.le_refl _) 7 (.agg #[.int .i64 0, .bool false, .bool false, .int .i64 1, .int .i64 40]) (by simp)
  rw [r7]
  go_wp2_with fail
  clear r7 h6 b6
  obtain ⟨W8, h8, b8, r8⟩ := upd_new ht hk h7 b7 (Nat.le_refl _) 8 (.agg #[.int .i64 0, .bool false, .bool false, .int .i64 1, .int .i64 40]) (by simp)
  rw [r8]
  go_wp2_with fail
  clear r8 h7 b7
  go_ret
  exact ⟨rfl, h8, b8⟩
end Go.Proofs.YtlbfnafniobnaaaDoor

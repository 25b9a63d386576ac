/- QuantityTables: rows of units. -/
import Derived.Test.YtfddfjokpaepfaaQlH
import Derived.Test.YtfddfjokpaepfaaQlE
namespace Go.Proofs.Ytfddfjokpaepfaa
open Go.RowKit

theorem info_unit : (Try.prog.info? 42).map (fun i => (i.zero, i.size, i.bytes)) = some (some (.agg #[.string ⟨#[]⟩, .int .i64 0, .int .i64 0, .int .i64 0, .int .i64 0]), 5, 48) := by kernel_rfl
def cellsU : List Qn.Un → List Value
  | [] => []
  | u :: l => .string ⟨u.nm.toArray⟩ :: .int .i64 u.kd :: .int .i64 u.base :: .int .i64 u.fac.1 :: .int .i64 u.fac.2 :: cellsU l
theorem cellsU_len : ∀ (a : List Qn.Un), (cellsU a).length = a.length * 5
  | [] => rfl
  | x :: a => by rw [cellsU]; simp only [List.length_cons]; rw [cellsU_len a]; omega
theorem cellsU_one : ∀ (a : List Qn.Un), ∀ v ∈ cellsU a, v.oneCell' = true
  | [], v, h => by cases h
  | x :: a, v, h => by
    simp only [cellsU, List.mem_cons] at h
    rcases h with rfl | rfl | rfl | rfl | rfl | h
    · rfl
    · rfl
    · rfl
    · rfl
    · rfl
    · exact cellsU_one a v h
/-- what a cell of a unit holds -/
def uval (u : Qn.Un) : Nat → Value
  | 0 => .string ⟨u.nm.toArray⟩
  | 1 => .int .i64 u.kd
  | 2 => .int .i64 u.base
  | 3 => .int .i64 u.fac.1
  | _ => .int .i64 u.fac.2
theorem cellsU_get : ∀ (l : List Qn.Un) (i : Nat) u, l[i]? = some u → ∀ k, k < 5 → (cellsU l)[i * 5 + k]? = some (uval u k)
  | [], i, r, h => by simp at h
  | x :: l, 0, r, h => by
    obtain rfl : x = r := by simpa using h
    intro k hk
    match k, hk with
    | 0, _ => rfl
    | 1, _ => rfl
    | 2, _ => rfl
    | 3, _ => rfl
    | 4, _ => rfl
  | x :: l, i + 1, r, h => by
    intro k hk
    have ih := cellsU_get l i r (by simpa using h) k hk
    rw [cellsU, show (i + 1) * 5 + k = i * 5 + k + 1 + 1 + 1 + 1 + 1 by omega]
    simp only [List.getElem?_cons_succ]
    exact ih
theorem cellsU_set : ∀ (l : List Qn.Un) (i : Nat) (u : Qn.Un), i < l.length → (((((cellsU l).set (i * 5) (.string ⟨u.nm.toArray⟩)).set (i * 5 + 1) (.int .i64 u.kd)).set (i * 5 + 2) (.int .i64 u.base)).set (i * 5 + 3) (.int .i64 u.fac.1)).set (i * 5 + 4) (.int .i64 u.fac.2) = cellsU (l.set i u)
  | [], i, r, h => by simp at h
  | x :: l, 0, r, _ => rfl
  | x :: l, i + 1, r, h => by
    have ih := cellsU_set l i r (by simpa using h)
    rw [cellsU, show (i + 1) * 5 + 4 = i * 5 + 4 + 1 + 1 + 1 + 1 + 1 by omega, show (i + 1) * 5 + 3 = i * 5 + 3 + 1 + 1 + 1 + 1 + 1 by omega, show (i + 1) * 5 + 2 = i * 5 + 2 + 1 + 1 + 1 + 1 + 1 by omega, show (i + 1) * 5 + 1 = i * 5 + 1 + 1 + 1 + 1 + 1 + 1 by omega, show (i + 1) * 5 = i * 5 + 1 + 1 + 1 + 1 + 1 by omega]
    simp only [List.set_cons_succ, cellsU]
    rw [ih]
theorem cellsU_nam : ∀ (l : List Qn.Un) (i : Nat) (u : Qn.Un) (t : List UInt8), l[i]? = some u → (cellsU l).set (i * 5) (.string ⟨t.toArray⟩) = cellsU (l.set i { u with nm := t })
  | [], i, r, _, h => by simp at h
  | x :: l, 0, r, _, h => by
    obtain rfl : x = r := by simpa using h
    rfl
  | x :: l, i + 1, r, t, h => by
    have ih := cellsU_nam l i r t (by simpa using h)
    rw [cellsU, show (i + 1) * 5 = i * 5 + 1 + 1 + 1 + 1 + 1 by omega]
    simp only [List.set_cons_succ, cellsU]
    rw [ih]
/-- units at the head of a block -/
def URow (w : World) (g : Nat) (l : List Qn.Un) : Prop := ∃ cur, w.heap[g]? = some (.cells cur 42 (0, 0)) ∧ cur.toList.take (l.length * 5) = cellsU l
theorem URow.lt {w : World} {g : Nat} {l : List Qn.Un} (h : URow w g l) : g < w.heap.size := by obtain ⟨_, h, _⟩ := h; exact (Array.getElem?_eq_some_iff.1 h).1
theorem URow.same {w w' : World} {g : Nat} {l : List Qn.Un} (h : URow w g l) (hb : w'.heap[g]? = w.heap[g]?) : URow w' g l := by obtain ⟨c, h, k⟩ := h; exact ⟨c, hb.trans h, k⟩
theorem URow.below {w w' : World} {g : Nat} {l : List Qn.Un} (h : URow w g l) (hb : Below w.heap.size w w') : URow w' g l := h.same (hb.block g h.lt)
theorem URow.put {w : World} {g c i : Nat} {l : List Qn.Un} {v : Value} (h : URow w g l) (hc : c ≠ g) : URow (w.setCell ⟨c, i, none⟩ v) g l := h.same (setCell_apart hc)
theorem URow.get {w : World} {g i : Nat} {l : List Qn.Un} {u : Qn.Un} (h : URow w g l) (hu : l[i]? = some u) : UCell w g (i * 5) u := by
  obtain ⟨cur, h1, h2⟩ := h
  have hi := (List.getElem?_eq_some_iff.1 hu).1
  have key : ∀ k, k < 5 → w.cell? ⟨g, i * 5 + k, none⟩ = some (uval u k) := fun k hk => by
    have e := cellsU_get l i u hu k hk
    rw [← h2, List.getElem?_take, if_pos (by omega)] at e
    simp [World.cell?, h1]
    simpa using e
  exact ⟨key 0 (by omega), key 1 (by omega), key 2 (by omega), key 3 (by omega), key 4 (by omega)⟩
theorem URow.soft {w : World} {g : Nat} {l : List Qn.Un} (h : URow w g l) (o : Nat) : w.frozen? ⟨g, o, none⟩ = false := by
  obtain ⟨cur, h1, _⟩ := h
  simp [World.frozen?, h1]
theorem URow.nam {w : World} {g i : Nat} {l : List Qn.Un} {u : Qn.Un} (h : URow w g l) (hu : l[i]? = some u) (t : List UInt8) : URow (w.setCell ⟨g, i * 5, none⟩ (.string ⟨t.toArray⟩)) g (l.set i { u with nm := t }) := by
  obtain ⟨cur, h1, h2⟩ := h
  refine ⟨_, setCell_row h1, ?_⟩
  rw [List.length_set, ← cellsU_nam l i u t hu, ← h2]
  simp [List.take_set]
theorem URow.set {w : World} {g i : Nat} {l : List Qn.Un} (h : URow w g l) (hi : i < l.length) (u : Qn.Un) : URow (((((w.setCell ⟨g, i * 5, none⟩ (.string ⟨u.nm.toArray⟩)).setCell ⟨g, i * 5 + 1, none⟩ (.int .i64 u.kd)).setCell ⟨g, i * 5 + 2, none⟩ (.int .i64 u.base)).setCell ⟨g, i * 5 + 3, none⟩ (.int .i64 u.fac.1)).setCell ⟨g, i * 5 + 4, none⟩ (.int .i64 u.fac.2)) g (l.set i u) := by
  obtain ⟨cur, h1, h2⟩ := h
  refine ⟨_, setCell_row (setCell_row (setCell_row (setCell_row (setCell_row h1)))), ?_⟩
  rw [List.length_set, ← cellsU_set l i u hi, ← h2]
  simp [List.take_set]
theorem URow.tab {w : World} {g : Nat} {l : List Qn.Un} (h : URow w g l) (h64 : ∀ u ∈ l, B64 u.fac.1) : Tab w (some ⟨g, 0, none⟩) l := ⟨h64, .inr ⟨g, 0, rfl, fun j u hu => by rw [Nat.zero_add]; exact h.get hu⟩⟩
theorem Tab.cells {w : World} {b off : Nat} : ∀ (l : List Qn.Un) (k : Nat), (∀ (j : Nat) a, l[j]? = some a → UCell w b (off + (k + j) * 5) a) → ∀ j u, (cellsU l)[j]? = some u → w.cell? ⟨b, off + k * 5 + j, none⟩ = some u
  | [], k, _, j, u, h => by simp [cellsU] at h
  | x :: l, k, hc, j, u, h => by
    obtain ⟨c0, c1, c2, c3, c4⟩ := hc 0 x rfl
    match j, h with
    | 0, h => simp [cellsU] at h; rw [← h]; exact c0
    | 1, h => simp [cellsU] at h; rw [← h]; exact c1
    | 2, h => simp [cellsU] at h; rw [← h]; exact c2
    | 3, h => simp [cellsU] at h; rw [← h]; exact c3
    | 4, h => simp [cellsU] at h; rw [← h]; exact c4
    | j + 5, h =>
      have ih := Tab.cells l (k + 1) (fun i a ha => by
        have := hc (i + 1) a (by simpa using ha)
        rwa [show k + (i + 1) = k + 1 + i by omega] at this) j u (by simpa [cellsU] using h)
      rwa [show off + (k + 1) * 5 + j = off + k * 5 + (j + 5) by omega] at ih
theorem Tab.news {w : World} {b off : Nat} {l : List Qn.Un} (h : ∀ (j : Nat) a, l[j]? = some a → UCell w b (off + j * 5) a) : ∀ j u, (cellsU l)[j]? = some u → w.cell? ((⟨b, off, none⟩ : Addr).add j) = some u := by
  intro j u hu
  rw [Go.WideShapes.add_plain]
  have := Tab.cells (w := w) (b := b) (off := off) l 0 (fun i a ha => by rw [Nat.zero_add]; exact h i a ha) j u hu
  rwa [Nat.zero_mul, Nat.add_zero] at this
def ZU : Qn.Un := ⟨[], 0, 0, (0, 0)⟩
theorem made_units (n : Nat) (hn : n ≤ 20) : (madeCells #[.string ⟨#[]⟩, .int .i64 0, .int .i64 0, .int .i64 0, .int .i64 0] (n * 5)).toList = cellsU (List.replicate n ZU) := by
  rcases (by omega : n = 0 ∨ n = 1 ∨ n = 2 ∨ n = 3 ∨ n = 4 ∨ n = 5 ∨ n = 6 ∨ n = 7 ∨ n = 8 ∨ n = 9 ∨ n = 10 ∨ n = 11 ∨ n = 12 ∨ n = 13 ∨ n = 14 ∨ n = 15 ∨ n = 16 ∨ n = 17 ∨ n = 18 ∨ n = 19 ∨ n = 20) with rfl | rfl | rfl | rfl | rfl | rfl | rfl | rfl | rfl | rfl | rfl | rfl | rfl | rfl | rfl | rfl | rfl | rfl | rfl | rfl | rfl <;> kernel_rfl
theorem own_urow {w : World} {base : Nat} {v : Value} {l : List Qn.Un} (hl : l ≠ []) (h : w.ownsRow base 42 5 v l.length (cellsU l)) : ∃ g cap, v = .slice (some ⟨g, 0, none⟩) l.length cap ∧ l.length ≤ cap ∧ base ≤ g ∧ URow w g l := by
  rcases h.2 with ⟨_, h0⟩ | ⟨g, cap, cur, hv, hbg, hg, hc, _, _, ht⟩
  · exact absurd (List.length_eq_zero_iff.1 h0) hl
  · exact ⟨g, cap, hv, hc, hbg, cur, hg, ht⟩
/-- the names of the first k are turned -/
def half (t : List UInt8) (us : List Qn.Un) (k : Nat) : List Qn.Un := (us.take k).map (Qn.nam t) ++ us.drop k
theorem half_len (t : List UInt8) (us : List Qn.Un) (k : Nat) (h : k ≤ us.length) : (half t us k).length = us.length := by
  unfold half
  rw [List.length_append, List.length_map, List.length_take, List.length_drop]
  omega
theorem half_get {t : List UInt8} {us : List Qn.Un} {k : Nat} {u : Qn.Un} (h : us[k]? = some u) : (half t us k)[k]? = some u := by
  obtain ⟨hk, rfl⟩ := List.getElem?_eq_some_iff.1 h
  unfold half
  rw [List.getElem?_append_right (by simp; omega)]
  simp [Nat.min_eq_left (Nat.le_of_lt hk)]
theorem half_next {t : List UInt8} {us : List Qn.Un} {k : Nat} {u : Qn.Un} (h : us[k]? = some u) : (half t us k).set k (Qn.nam t u) = half t us (k + 1) := by
  obtain ⟨hk, rfl⟩ := List.getElem?_eq_some_iff.1 h
  unfold half
  rw [List.set_append_right _ _ (by simp; omega), List.take_add_one, List.getElem?_eq_getElem hk]
  simp only [List.length_map, List.length_take, Nat.min_eq_left (Nat.le_of_lt hk), Nat.sub_self, Option.toList_some, List.map_append, List.map_cons, List.map_nil, List.append_assoc, List.cons_append, List.nil_append]
  rw [List.drop_eq_getElem_cons hk]
  rfl
/-- the first k units lie where the turn takes them -/
def Turn (us ys : List Qn.Un) (r k : Nat) : Prop := ys.length = us.length ∧ (∀ u ∈ ys, B64 u.fac.1) ∧ ∀ i u, i < k → us[i]? = some u → ys[(i + r) % us.length]? = some (Qn.mov us.length (fun i => (i + r) % us.length) u)
theorem Turn.start (us : List Qn.Un) (r : Nat) : Turn us (List.replicate us.length ZU) r 0 :=
  ⟨List.length_replicate, fun u hu => by rw [List.eq_of_mem_replicate hu]; exact ⟨by decide, by decide⟩, fun i u h => absurd h (Nat.not_lt_zero _)⟩
theorem turn_inj {n r i k : Nat} (hi : i < k) (hk : k < n) (hr : r < n) : (i + r) % n ≠ (k + r) % n := by
  intro h
  rcases Nat.lt_or_ge (i + r) n with h1 | h1 <;> rcases Nat.lt_or_ge (k + r) n with h2 | h2
  · rw [Nat.mod_eq_of_lt h1, Nat.mod_eq_of_lt h2] at h; omega
  · rw [Nat.mod_eq_of_lt h1, Nat.mod_eq_sub_mod h2, Nat.mod_eq_of_lt (show k + r - n < n by omega)] at h; omega
  · rw [Nat.mod_eq_of_lt h2, Nat.mod_eq_sub_mod h1, Nat.mod_eq_of_lt (show i + r - n < n by omega)] at h; omega
  · rw [Nat.mod_eq_sub_mod h1, Nat.mod_eq_sub_mod h2, Nat.mod_eq_of_lt (show i + r - n < n by omega), Nat.mod_eq_of_lt (show k + r - n < n by omega)] at h; omega
theorem Turn.next {us ys : List Qn.Un} {r k : Nat} {u : Qn.Un} (h : Turn us ys r k) (hu : us[k]? = some u) (h64 : B64 u.fac.1) (hr : r < us.length) : Turn us (ys.set ((k + r) % us.length) (Qn.mov us.length (fun i => (i + r) % us.length) u)) r (k + 1) := by
  obtain ⟨h1, h2, h3⟩ := h
  have hk := (List.getElem?_eq_some_iff.1 hu).1
  refine ⟨by rw [List.length_set, h1], fun v hv => ?_, fun i v hi hv => ?_⟩
  · rcases List.mem_or_eq_of_mem_set hv with hv | rfl
    · exact h2 v hv
    · exact h64
  · rw [List.getElem?_set]
    rcases Nat.lt_or_ge i k with hik | hik
    · rw [if_neg (Ne.symm (turn_inj hik hk hr))]
      exact h3 i v hik hv
    · obtain rfl : i = k := by omega
      rw [if_pos rfl, if_pos (by rw [h1]; exact Nat.mod_lt _ (by omega))]
      rw [hu] at hv
      cases hv
      rfl
theorem bool_eq {a b : Bool} (h : a = true ↔ b = true) : a = b := by cases a <;> cases b <;> simp_all
theorem named_valid (t : List UInt8) (us : List Qn.Un) (hn : us.length ≤ 20) : (Qn.validS (us.map (Qn.nam t))).2 = (Qn.validS us).2 :=
  bool_eq (by rw [Qn.valid_iff, Qn.valid_iff, Qn.flat_iff hn, Qn.flat_iff (by simpa using hn)]; exact Qn.flat_named t us)
theorem Turn.valid {us ys : List Qn.Un} {r : Nat} (h : Turn us ys r us.length) (hn : us.length ≤ 20) (hr : r < us.length) : (Qn.validS ys).2 = (Qn.validS us).2 :=
  bool_eq (by
    rw [Qn.valid_iff, Qn.valid_iff, Qn.flat_iff hn, Qn.flat_iff (by rw [h.1]; exact hn)]
    exact Qn.flat_turned rfl h.1 hr fun i u hu => h.2.2 i u (List.getElem?_eq_some_iff.1 hu).1 hu)
theorem named_64 {t : List UInt8} {us : List Qn.Un} (h : ∀ u ∈ us, B64 u.fac.1) : ∀ u ∈ us.map (Qn.nam t), B64 u.fac.1 := by
  intro u hu
  obtain ⟨v, hv, rfl⟩ := List.mem_map.1 hu
  rw [(Qn.nam_rest t v).2.2]
  exact h v hv
theorem tmod_nat (a n : Nat) : Int.tmod (a : Int) (n : Int) = ((a % n : Nat) : Int) := by
  rw [Int.tmod_eq_emod_of_nonneg (by omega)]
  rfl
end Go.Proofs.Ytfddfjokpaepfaa

/- DeadlineNeeds: rows of events that the law makes. -/
import Derived.Test.YtlbfnafniobnaaaDoorDnP
import Derived.Test.YtlbfnafniobnaaaDoorDnS
import Derived.Test.YtlbfnafniobnaaaDoorDlZ
import Derived.OwnWalk
import Derived.OpenShut
namespace Go.Proofs.YtlbfnafniobnaaaDoor
open Go.RowKit Go.Shelf

theorem info_when : (Tryd.prog.info? 42).map (fun i => (i.zero, i.size, i.bytes)) = some (some (.agg #[.bool false, .int .i64 0, .int .i64 0]), 3, 24) := by kernel_rfl
theorem setCell_row {W : World} {b i : Nat} {v : Value} {cs : Array Value} {t : TypeId} {fr : Nat × Nat} (h : W.heap[b]? = some (.cells cs t fr)) : (W.setCell ⟨b, i, none⟩ v).heap[b]? = some (.cells (cs.setIfInBounds i v) t fr) := by
  obtain ⟨hlt, hk⟩ := Array.getElem?_eq_some_iff.1 h
  show (W.heap.modify b _)[b]? = _
  rw [Array.getElem?_eq_getElem (by rw [Array.size_modify]; exact hlt), Array.getElem_modify_self, hk]
  rfl
def cellsW : List Wh → List Value
  | [] => []
  | e :: l => .bool e.known :: .int .i64 e.day :: .int .i64 e.minute :: cellsW l
def wval (u : Wh) : Nat → Value
  | 0 => .bool u.known
  | 1 => .int .i64 u.day
  | _ => .int .i64 u.minute
theorem cellsW_get : ∀ (l : List Wh) (i : Nat) u, l[i]? = some u → ∀ k, k < 3 → (cellsW l)[i * 3 + k]? = some (wval u k)
  | [], i, r, h => by simp at h
  | x :: l, 0, r, h => by
    obtain rfl : x = r := by simpa using h
    intro k hk
    match k, hk with
    | 0, _ => rfl
    | 1, _ => rfl
    | 2, _ => rfl
  | x :: l, i + 1, r, h => by
    intro k hk
    have ih := cellsW_get l i r (by simpa using h) k hk
    rw [cellsW, show (i + 1) * 3 + k = i * 3 + k + 1 + 1 + 1 by omega]
    simp only [List.getElem?_cons_succ]
    exact ih
theorem cellsW_set : ∀ (l : List Wh) (i : Nat) (u : Wh), i < l.length → (((cellsW l).set (i * 3) (.bool u.known)).set (i * 3 + 1) (.int .i64 u.day)).set (i * 3 + 2) (.int .i64 u.minute) = cellsW (l.set i u)
  | [], i, r, h => by simp at h
  | x :: l, 0, r, _ => rfl
  | x :: l, i + 1, r, h => by
    have ih := cellsW_set l i r (by simpa using h)
    rw [cellsW, show (i + 1) * 3 + 2 = i * 3 + 2 + 1 + 1 + 1 by omega, show (i + 1) * 3 + 1 = i * 3 + 1 + 1 + 1 + 1 by omega, show (i + 1) * 3 = i * 3 + 1 + 1 + 1 by omega]
    simp only [List.set_cons_succ, cellsW]
    rw [ih]
/-- events at the head of a block -/
def WRow (w : World) (g : Nat) (l : List Wh) : Prop := ∃ cur, w.heap[g]? = some (.cells cur 42 (0, 0)) ∧ cur.toList.take (l.length * 3) = cellsW l
theorem WRow.lt {w : World} {g : Nat} {l : List Wh} (h : WRow w g l) : g < w.heap.size := by obtain ⟨_, h, _⟩ := h; exact (Array.getElem?_eq_some_iff.1 h).1
theorem WRow.get {w : World} {g i : Nat} {l : List Wh} {u : Wh} (h : WRow w g l) (hu : l[i]? = some u) : WhC w g (i * 3) u := by
  obtain ⟨cur, h1, h2⟩ := h
  have hi := (List.getElem?_eq_some_iff.1 hu).1
  have key : ∀ k, k < 3 → w.cell? ⟨g, i * 3 + k, none⟩ = some (wval u k) := fun k hk => by
    have e := cellsW_get l i u hu k hk
    rw [← h2, List.getElem?_take, if_pos (by omega)] at e
    simp [World.cell?, h1]
    simpa using e
  exact ⟨key 0 (by omega), key 1 (by omega), key 2 (by omega)⟩
theorem WRow.soft {w : World} {g : Nat} {l : List Wh} (h : WRow w g l) (o : Nat) : w.frozen? ⟨g, o, none⟩ = false := by
  obtain ⟨cur, h1, _⟩ := h
  simp [World.frozen?, h1]
theorem WRow.set {w : World} {g i : Nat} {l : List Wh} (h : WRow w g l) (hi : i < l.length) (u : Wh) : WRow (((w.setCell ⟨g, i * 3, none⟩ (.bool u.known)).setCell ⟨g, i * 3 + 1, none⟩ (.int .i64 u.day)).setCell ⟨g, i * 3 + 2, none⟩ (.int .i64 u.minute)) g (l.set i u) := by
  obtain ⟨cur, h1, h2⟩ := h
  refine ⟨_, setCell_row (setCell_row (setCell_row h1)), ?_⟩
  rw [List.length_set, ← cellsW_set l i u hi, ← h2]
  simp [List.take_set]
theorem WRow.ev {w : World} {g : Nat} {l : List Wh} (h : WRow w g l) : EvAt w (some ⟨g, 0, none⟩) l := .inr ⟨g, 0, rfl, fun j u hu => by rw [Nat.zero_add]; exact h.get hu⟩
theorem made_whens (n : Nat) : (madeCells #[.bool false, .int .i64 0, .int .i64 0] (n * 3)).toList = cellsW (List.replicate n ZW) := by
  have hlen : ∀ l : List Wh, (cellsW l).length = l.length * 3 := fun l => by
    induction l with
    | nil => rfl
    | cons x l ih => rw [cellsW]; simp only [List.length_cons]; rw [ih]; omega
  apply List.ext_getElem?
  intro i
  by_cases hi : i < n * 3
  · have h1 : (List.replicate n ZW)[i / 3]? = some ZW := by rw [List.getElem?_replicate, if_pos (by omega)]
    have := cellsW_get (List.replicate n ZW) (i / 3) ZW h1 (i % 3) (by omega)
    rw [show i / 3 * 3 + i % 3 = i by omega] at this
    rw [this]
    simp only [madeCells]
    rw [Array.getElem?_toList, Array.getElem?_map, Array.getElem?_range, if_pos hi]
    rcases (by omega : i % 3 = 0 ∨ i % 3 = 1 ∨ i % 3 = 2) with h | h | h <;> simp [h, wval, ZW]
  · rw [List.getElem?_eq_none (by simp [madeCells]; omega), List.getElem?_eq_none (by rw [hlen]; simp; omega)]
theorem made_wrow {w1 : World} {g base n : Nat} (h : w1.ownsRow base 42 3 (.slice (some ⟨g, 0, none⟩) n n) n (madeCells #[.bool false, .int .i64 0, .int .i64 0] (n * 3)).toList) : WRow w1 g (List.replicate n ZW) := by
  rw [made_whens n] at h
  obtain ⟨_, ⟨h1, _⟩ | ⟨g', cap, cur, h1, _, h2, _, _, _, h4⟩⟩ := h
  · cases h1
  · cases h1
    exact ⟨cur, h2, by rw [List.length_replicate]; exact h4⟩
theorem take_next {ns : List Int} {k : Nat} {x : Int} (h : ns[k]? = some x) : ns.take (k + 1) = ns.take k ++ [x] := by rw [List.take_add_one, h]; rfl
theorem WRow.next {w : World} {g k j : Nat} {l : List Wh} {ns : List Int} {e : Wh} (h : WRow w g (onlyF l (ns.take k))) (hk : ns[k]? = some (j : Int)) (he : l[j]? = some e) :
    WRow (((w.setCell ⟨g, j * 3, none⟩ (.bool e.known)).setCell ⟨g, j * 3 + 1, none⟩ (.int .i64 e.day)).setCell ⟨g, j * 3 + 2, none⟩ (.int .i64 e.minute)) g (onlyF l (ns.take (k + 1))) := by
  rw [take_next hk, ← only_set he]
  exact h.set (by rw [only_len]; exact (List.getElem?_eq_some_iff.1 he).1) e
theorem below_next {w w' : World} {g j : Nat} {e : Wh} {n : Nat} (h : Below n w w') (hg : n ≤ g) : Below n w (((w'.setCell ⟨g, j * 3, none⟩ (.bool e.known)).setCell ⟨g, j * 3 + 1, none⟩ (.int .i64 e.day)).setCell ⟨g, j * 3 + 2, none⟩ (.int .i64 e.minute)) :=
  ((h.setCell (p := ⟨g, j * 3, none⟩) hg _).setCell (p := ⟨g, j * 3 + 1, none⟩) hg _).setCell (p := ⟨g, j * 3 + 2, none⟩) hg _
theorem all_next {l : List Wh} {ns : List Int} {k j : Nat} {e : Wh} (hk : ns[k]? = some (j : Int)) (he : l[j]? = some e) : (ns.take (k + 1)).all (knownAt l) = ((ns.take k).all (knownAt l) && e.known) := by
  rw [take_next hk, List.all_append]
  congr 1
  have : knownAt l (j : Int) = e.known := by unfold knownAt; rw [Int.toNat_natCast, he]
  simp [this]
theorem eval_only (t : Dl.T) (c : Cal) (q : Option Addr) (capq n : Nat) (l : List Wh) (w : World) (ht : TAt w t) (hc : CalIn w c) (hl : EvAt w q l) (hl1 : n ≤ 1000) (hE : Env w) (hn : l.length = n) :
    Calls Tryd.prog 12 #[.agg #[.int .i64 t.kd, .int .i64 t.n, .int .i64 t.ev, .bool t.bz, .slice t.p t.kids.length t.cap], .agg #[.bool c.b0, .bool c.b1, .bool c.b2, .bool c.b3, .bool c.b4, .bool c.b5, .bool c.b6, .slice c.p c.hs.length c.cap], .slice q n capq] w fun e w' => e = .returned (R3 (evalS t c l)) ∧ Below w.heap.size w w' := by
  subst hn
  exact eval_at t c q capq l w ht hc hl hl1 hE
end Go.Proofs.YtlbfnafniobnaaaDoor

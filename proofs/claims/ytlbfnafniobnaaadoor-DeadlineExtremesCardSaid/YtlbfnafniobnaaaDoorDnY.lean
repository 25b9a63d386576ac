/- DeadlineExtremes: rows of terms that the law makes. -/
import Derived.Test.YtlbfnafniobnaaaDoorDnP
import Derived.Test.YtlbfnafniobnaaaDoorDnX
import Derived.Test.YtlbfnafniobnaaaDoorDlZ
import Derived.OwnWalk
import Derived.OpenShut
import Derived.Maps.AppendAt
namespace Go.Proofs.YtlbfnafniobnaaaDoor
open Go.RowKit Go.Shelf

theorem info_term : (Tryd.prog.info? 24).map (fun i => (i.zero, i.size, i.bytes)) = some (some (.agg #[.int .i64 0, .int .i64 0, .int .i64 0, .bool false, .slice none 0 0]), 5, 56) := by kernel_rfl
def cells1 (t : Dl.T) : List Value := [.int .i64 t.kd, .int .i64 t.n, .int .i64 t.ev, .bool t.bz, .slice t.p t.kids.length t.cap]
def cellsT : List Dl.T → List Value
  | [] => []
  | t :: l => cells1 t ++ cellsT l
theorem cellsT_app : ∀ a b : List Dl.T, cellsT (a ++ b) = cellsT a ++ cellsT b
  | [], _ => rfl
  | x :: a, b => by rw [List.cons_append, cellsT, cellsT, cellsT_app a b, List.append_assoc]
theorem cellsT_get : ∀ (l : List Dl.T) (i : Nat) t (j : Nat), l[i]? = some t → j < 5 → (cellsT l)[i * 5 + j]? = (cells1 t)[j]?
  | [], i, t, j, h, _ => by simp at h
  | x :: l, 0, t, j, h, hj => by
    obtain rfl : x = t := by simpa using h
    rw [cellsT, Nat.zero_mul, Nat.zero_add, List.getElem?_append_left (by simp [cells1]; omega)]
  | x :: l, i + 1, t, j, h, hj => by
    have ih := cellsT_get l i t j (by simpa using h) hj
    rw [cellsT, List.getElem?_append_right (by simp [cells1]; omega), ← ih]
    congr 1
    simp [cells1]
    omega
theorem own_terms {w : World} {base : Nat} {v : Value} {l : List Dl.T} (h : w.ownsRow base 24 5 v l.length (cellsT l)) (hl : l ≠ []) : ∃ g cap, v = .slice (some ⟨g, 0, none⟩) l.length cap ∧ base ≤ g ∧ ∀ (j : Nat) k, l[j]? = some k → KCell w g (j * 5) k := by
  rcases h.2 with ⟨_, h0⟩ | ⟨g, cap, cur, hv, hbg, hg, hc, _, _, ht⟩
  · exact absurd (List.length_eq_zero_iff.1 h0) hl
  · refine ⟨g, cap, hv, hbg, fun j k hj => ?_⟩
    have hjl := (List.getElem?_eq_some_iff.1 hj).1
    have key : ∀ i, i < 5 → w.cell? ⟨g, j * 5 + i, none⟩ = (cells1 k)[i]? := fun i hi => by
      have e := cellsT_get l j k i hj hi
      rw [← ht, List.getElem?_take, if_pos (by omega)] at e
      simp [World.cell?, hg]
      simpa using e
    exact ⟨key 0 (by omega), key 1 (by omega), key 2 (by omega), key 3 (by omega), key 4 (by omega)⟩
theorem ownT_app {w : World} {base n m : Nat} {v : Value} {l : List Dl.T} {t : Dl.T} (hn : n = l.length) (hm : m = 1) (h : w.ownsRow base 24 5 v (n + m) (cellsT l ++ cells1 t)) : w.ownsRow base 24 5 v (l ++ [t]).length (cellsT (l ++ [t])) := by
  subst hn hm
  rw [cellsT_app, List.length_append]
  simpa [cellsT] using h
theorem tat_kd {w : World} {a b : Int} {p : Option Addr} {cap : Nat} {l : List Dl.T} (h : TAt w (exT a p cap l)) : TAt w (exT b p cap l) := by
  obtain ⟨h1, h2⟩ := tin_iff.1 h
  exact tat_mk h1 h2
theorem rev_get {ks : List Dl.T} {k j : Nat} {t : Dl.T} (hj : j + 1 + k = ks.length) (h : ks[j]? = some t) : ks.reverse[k]? = some t := by
  rw [List.getElem?_reverse (by omega), show ks.length - 1 - k = j by omega]
  exact h
theorem rev_next {ks : List Dl.T} {k j : Nat} {t : Dl.T} (hj : j + 1 + k = ks.length) (h : ks[j]? = some t) : ks.reverse.take (k + 1) = ks.reverse.take k ++ [t] := by
  rw [List.take_add_one, rev_get hj h]
  rfl
theorem any_next {ds : List Int} {k : Nat} {d a : Int} (h : ds[k]? = some d) : (ds.take (k + 1)).any (· == a) = ((ds.take k).any (· == a) || d == a) := by
  rw [List.take_add_one, h, List.any_append]
  congr 1
  simp
theorem any_all {ds : List Int} {a : Int} (h : a ∈ ds) : ds.any (· == a) = true := List.any_eq_true.2 ⟨a, h, by simp⟩
theorem how_below {w w' : World} {base size n : Nat} {t : TypeId} {v : Value} {xs : List Value} (h : w.ownsRow base t size v n xs) (hb : Below w.heap.size w w') : w'.ownsRow base t size v n xs := by
  obtain ⟨h1, h2⟩ := h
  refine ⟨h1, h2.imp id ?_⟩
  rintro ⟨g, cap, cur, hv, hbg, hg, h3⟩
  exact ⟨g, cap, cur, hv, hbg, (hb.block g (Array.getElem?_eq_some_iff.1 hg).1).trans hg, h3⟩
end Go.Proofs.YtlbfnafniobnaaaDoor

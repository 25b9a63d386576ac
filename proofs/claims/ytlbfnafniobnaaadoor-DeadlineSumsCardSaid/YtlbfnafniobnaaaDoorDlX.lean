/- The laws' fixed examples: what Eval, Bounds, Events answer. -/
import Derived.Test.YtlbfnafniobnaaaDoorDlW
namespace Go.Proofs.YtlbfnafniobnaaaDoor
open Go.RowKit Go.Shelf

theorem known_nds {t : Dl.T} {l : List Wh} (h : ∀ x ∈ Dl.nds t 1, isEv x.1 = true → knownAt l x.1.ev = true) : ((evT t).any fun i => !(knownAt l i)) = false := by
  rw [List.any_eq_false]
  intro i hi
  obtain ⟨x, hx, h1, rfl⟩ := evT_in hi
  simp [h x hx h1]
theorem ev_some {t : Dl.T} {c : Cal} {l : List Wh} {d : Int} (hc : CalOK c) (hv : validT t l.length = true) (hg : goodE l = true) (hk : ∀ x ∈ Dl.nds t 1, isEv x.1 = true → knownAt l x.1.ev = true) (hd : dayT c l t = some d) : evalS t c l = (d, true, 0) := by
  rw [evalS_eq, if_pos ⟨hc, hv, hg⟩, known_nds hk, if_neg (by simp), hd]
theorem ev_none {t : Dl.T} {c : Cal} {l : List Wh} (hc : CalOK c) (hv : validT t l.length = true) (hg : goodE l = true) (hk : ∀ x ∈ Dl.nds t 1, isEv x.1 = true → knownAt l x.1.ev = true) (hd : dayT c l t = none) : evalS t c l = (0, false, 2) := by
  rw [evalS_eq, if_pos ⟨hc, hv, hg⟩, known_nds hk, if_neg (by simp), hd]
theorem ev_unk {t : Dl.T} {c : Cal} {l : List Wh} {x : Dl.T × Nat} (hc : CalOK c) (hv : validT t l.length = true) (hg : goodE l = true) (hx : x ∈ Dl.nds t 1) (hi : isEv x.1 = true) (hk : knownAt l x.1.ev = false) : evalS t c l = (0, false, 0) := by
  rw [evalS_eq, if_pos ⟨hc, hv, hg⟩, if_pos (List.any_eq_true.2 ⟨_, mem_evT hx hi, by simp [hk]⟩)]
/-- the calendar of the examples -/
def c0 : Cal := ⟨false, false, false, false, false, true, true, none, 0, []⟩
theorem c0_ok : CalOK c0 := ⟨by decide, rfl, trivial⟩
def ev0 : Dl.T := .node 2 0 0 false none 0 []
def dy (n : Int) : Dl.T := .node 1 n 0 false none 0 []
def l0 : List Wh := [⟨true, 3, 1000⟩]
theorem add_eq {W : Nat → Bool} {hs : List Int} (h : Dt.Asc hs) {day r : Nat} {m : Int} (hr : r ≤ 73048) (hb : Dt.busy W hs r = true) (he : Dt.earl W hs day m = Dt.cnt W hs r) (hm : m ≤ 73048 - day) : Dt.add W hs day m = ((r : Int), 0) := by
  unfold Dt.add
  rw [if_neg (by omega), he, Dt.fst_unique h hr hb, if_pos hr]
theorem fa0 : FA c0 3 3 = (8, 0) := by
  unfold FA
  rw [if_pos ⟨c0_ok, by decide, by decide, by decide⟩]
  exact add_eq (W := c0.wk) (hs := []) (day := 3) (r := 8) trivial (by omega) (by decide) (by decide) (by decide)
theorem fn4 : FN c0 4 = (4, 0) := by
  unfold FN
  rw [if_pos ⟨c0_ok, by decide, by decide⟩]
  exact add_eq (W := c0.wk) (hs := []) (day := 4) (r := 4) trivial (by omega) (by decide) (by decide) (by decide)
theorem fn5 : FN c0 5 = (7, 0) := by
  unfold FN
  rw [if_pos ⟨c0_ok, by decide, by decide⟩]
  exact add_eq (W := c0.wk) (hs := []) (day := 5) (r := 7) trivial (by omega) (by decide) (by decide) (by decide)
theorem fm3 : FM 3 1 = (34, 0) := (months_eq (y := 1990) (m := 1) (d := 4) (by unfold Dt.IsCiv; decide)).trans (by decide)
theorem x1 : evalS (.node 3 960 0 false none 0 []) c0 l0 = (4, true, 0) :=
  ev_some c0_ok (by rfl) (by rfl) (by simp [Dl.nds, Dl.ndsL, isEv, knownAt, l0, Dl.T.kd, Dl.T.ev]) (by simp [dayT, dayL, ruleS, dayR, whAt, l0, Dl.T.kd, Dl.T.ev, Dl.T.n, cutD])
theorem x2 (g : Nat) : evalS (.node 4 3 0 true (some ⟨g, 0, none⟩) 1 [ev0]) c0 l0 = (8, true, 0) :=
  ev_some c0_ok (by rfl) (by rfl) (by simp [Dl.nds, Dl.ndsL, isEv, knownAt, l0, ev0, Dl.T.kd, Dl.T.ev]) (by simp [dayT, dayL, ruleS, dayR, whAt, l0, Dl.T.kd, Dl.T.ev, Dl.T.n, Dl.T.bz, ev0, fa0])
theorem x3 (g h : Nat) : evalS (.node 8 0 0 false (some ⟨g, 0, none⟩) 2 [dy 10, .node 5 1 0 false (some ⟨h, 0, none⟩) 1 [ev0]]) c0 l0 = (34, true, 0) :=
  ev_some c0_ok (by rfl) (by rfl) (by simp [Dl.nds, Dl.ndsL, isEv, knownAt, l0, ev0, dy, Dl.T.kd, Dl.T.ev]) (by simp [dayT, dayL, ruleS, dayR, whAt, l0, Dl.T.kd, Dl.T.ev, Dl.T.n, ev0, dy, fm3, Lib.maxOf]; decide)
theorem x4 : evalS ev0 c0 [⟨false, 0, 0⟩] = (0, false, 0) :=
  ev_unk (x := (ev0, 1)) c0_ok (by rfl) (by rfl) (by simp [Dl.nds, Dl.ndsL, ev0]) (by rfl) (by rfl)
theorem x5 (g : Nat) : evalS (.node 4 1 0 false (some ⟨g, 0, none⟩) 1 [dy 73048]) c0 [] = (0, false, 2) :=
  ev_none c0_ok (by rfl) (by rfl) (by simp [Dl.nds, Dl.ndsL, isEv, dy, Dl.T.kd]) (by simp [dayT, dayL, ruleS, dayR, Dl.T.kd, Dl.T.n, Dl.T.bz, dy])
theorem x6 (g : Nat) : boundsS (.node 6 0 0 false (some ⟨g, 0, none⟩) 1 [ev0]) c0 [⟨true, 4, 5⟩] [⟨true, 5, 0⟩] = (4, 7, true, 0) := by
  have a : evalS (.node 6 0 0 false (some ⟨g, 0, none⟩) 1 [ev0]) c0 [⟨true, 4, 5⟩] = (4, true, 0) :=
    ev_some c0_ok (by rfl) (by rfl) (by simp [Dl.nds, Dl.ndsL, isEv, knownAt, ev0, Dl.T.kd, Dl.T.ev]) (by simp [dayT, dayL, ruleS, dayR, whAt, Dl.T.kd, Dl.T.ev, ev0, fn4])
  have b : evalS (.node 6 0 0 false (some ⟨g, 0, none⟩) 1 [ev0]) c0 [⟨true, 5, 0⟩] = (7, true, 0) :=
    ev_some c0_ok (by rfl) (by rfl) (by simp [Dl.nds, Dl.ndsL, isEv, knownAt, ev0, Dl.T.kd, Dl.T.ev]) (by simp [dayT, dayL, ruleS, dayR, whAt, Dl.T.kd, Dl.T.ev, ev0, fn5])
  unfold boundsS
  rw [a, b]
  rfl
def t7 (g : Nat) : Dl.T := .node 7 0 0 false (some ⟨g, 0, none⟩) 3 [.node 2 0 7 false none 0 [], .node 3 0 2 false none 0 [], .node 2 0 7 false none 0 []]
theorem x7 (g : Nat) : evT (t7 g) = [2, 7] := by
  unfold evT evs t7
  simp [Dl.nds, Dl.ndsL, isEv, Dl.T.kd, Dl.T.ev]
  have : ([7, 2, 7] : List Int).mergeSort (fun x y => decide (x ≤ y)) = [2, 7, 7] := by simp [List.mergeSort, List.MergeSort.Internal.splitInTwo]
  rw [this]
  rfl
theorem x7v (g : Nat) : validT (t7 g) 1000 = true := by rfl
theorem x8 : validT ev0 1 = true := by rfl
theorem x9 : validT ev0 0 = false := by rfl
end Go.Proofs.YtlbfnafniobnaaaDoor

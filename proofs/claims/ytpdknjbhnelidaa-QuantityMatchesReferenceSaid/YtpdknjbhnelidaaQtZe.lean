/- Rows of a function's own; the baskets in one form. -/
import Derived.Test.YtpdknjbhnelidaaQtZb
import Derived.Test.YtpdknjbhnelidaaQtQ
import Derived.Test.YtpdknjbhnelidaaQtR
import Derived.Maps.AppendAt
import Derived.Laws.OwnMore
namespace Go.Proofs.Ytpdknjbhnelidaa
open Go.RowKit

theorem cellsR_app : ∀ (a b : List Qn.R), cellsR (a ++ b) = cellsR a ++ cellsR b
  | [], _ => rfl
  | x :: a, b => by rw [List.cons_append, cellsR, cellsR, cellsR_app a b]; rfl
theorem cellsR_len : ∀ (a : List Qn.R), (cellsR a).length = a.length * 2
  | [] => rfl
  | x :: a => by rw [cellsR, List.length_cons, List.length_cons, List.length_cons, cellsR_len a]; omega
theorem cell_two_new (w : World) (x y : Value) (t : TypeId) : ∀ j u, [x, y][j]? = some u → (w.alloc (.cells #[x, y] t)).cell? ((⟨w.heap.size, 0, none⟩ : Addr).add j) = some u := by
  intro j u hj
  have e := World.alloc_heap_new w (.cells #[x, y] t)
  rw [Go.WideShapes.add_plain, Nat.zero_add]
  match j, hj with
  | 0, hj =>
    simp only [List.getElem?_cons_zero, Option.some.injEq] at hj
    subst hj
    simp only [World.cell?, e]
    rfl
  | 1, hj =>
    simp only [List.getElem?_cons_succ, List.getElem?_cons_zero, Option.some.injEq] at hj
    subst hj
    simp only [World.cell?, e]
    rfl
/-- a list of ratios in a row of the law's own -/
def OwnR (w : World) (base : Nat) (v : Value) (l : List Qn.R) : Prop := w.ownsRow base 31 2 v l.length (cellsR l)
theorem OwnR.rats {w : World} {base : Nat} {v : Value} {l : List Qn.R} (h : OwnR w base v l) (h64 : ∀ r ∈ l, B64 r.1) : ∃ q cap, v = .slice q l.length cap ∧ Rats w q l := by
  rcases h.2 with ⟨hv, h0⟩ | ⟨g, cap, cur, hv, _, hg, _, _, _, ht⟩
  · obtain rfl := List.length_eq_zero_iff.1 h0
    exact ⟨none, 0, hv, (fun x hx => by cases hx), .inl rfl⟩
  · refine ⟨_, cap, hv, h64, .inr ⟨g, 0, rfl, fun j r hr => ?_⟩⟩
    obtain ⟨h1, h2⟩ := cellsR_get l j r hr
    have key : ∀ (i : Nat) (u : Value), (cellsR l)[i]? = some u → w.cell? ⟨g, i, none⟩ = some u := fun i u hu => by
      rw [← ht, List.getElem?_take] at hu
      split at hu
      · simp [World.cell?, hg]
        simpa using hu
      · cases hu
    rw [Nat.zero_add]
    exact ⟨key _ _ h1, key _ _ h2⟩
theorem OwnR.below {w w' : World} {base : Nat} {v : Value} {l : List Qn.R} (h : OwnR w base v l) (hb : Below w.heap.size w w') : OwnR w' base v l := by
  obtain ⟨h1, h2⟩ := h
  refine ⟨h1, h2.imp id ?_⟩
  rintro ⟨g, cap, cur, hv, hbg, hg, h3⟩
  exact ⟨g, cap, cur, hv, hbg, (hb.block g (Array.getElem?_eq_some_iff.1 hg).1).trans hg, h3⟩
theorem own_snoc {w : World} {base n : Nat} {v : Value} {l : List Qn.R} {p q : Int} (hn : n = l.length) (h : w.ownsRow base 31 2 v (n + 1) (cellsR l ++ [.int .i64 p, .int .i64 q])) : OwnR w base v (l ++ [(p, q)]) := by
  subst hn
  unfold OwnR
  rw [cellsR_app, List.length_append]
  exact h
theorem bask_64 {us : List Qn.Un} {l : List Qn.Am} {o : List Qn.R} (h : Qn.basketS us l = (some o, 0)) : o.length = us.length ∧ ∀ r ∈ o, Qn.RO r := by
  obtain ⟨o', eo, h1, h2, h3⟩ := Qn.basket_ok h
  cases eo
  have q := Qn.bask_zero (Qn.bvf_ok h1 h2) h3
  refine ⟨q.1, fun r hr => ?_⟩
  obtain ⟨i, hi, rfl⟩ := List.getElem_of_mem hr
  rw [← Qn.getD_get hi]
  exact (q.2 i (by rw [← q.1]; exact hi)).1
theorem rats_nil (w : World) : Rats w none [] := ⟨(fun r hr => by cases hr), .inl rfl⟩
/-- Basket, in one form -/
theorem basket_gen (p q : Option Addr) (cap capl : Nat) (us : List Qn.Un) (l : List Qn.Am) (xs : List Qn.R) (x : Option (List Qn.R)) (c : Int) (w : World) (ht : Tab w p us) (hcap : us.length ≤ cap) (hl : Amts w q l) (hll : l.length ≤ 1000) (hx : Qn.basketS us l = (x, c)) (hxs : xs = x.getD []) :
    Calls Try.prog 14 #[.slice p us.length cap, .slice q l.length capl] w fun e w' => ∃ z, e = .returned (.tuple #[.slice z xs.length xs.length, .int .i64 c]) ∧ Rats w' z xs ∧ Below w.heap.size w w' := by
  refine (basket_any p q cap capl us l w ht hcap hl hll).mono ?_
  rintro e w' ⟨hb, ⟨o, g, hr, rfl, hg, hrow⟩ | ⟨c', hr, hc, rfl⟩⟩
  · rw [hx, Prod.mk.injEq] at hr
    obtain ⟨rfl, rfl⟩ := hr
    obtain rfl : xs = o := hxs
    obtain ⟨hlen, h64⟩ := bask_64 hx
    rw [hlen]
    exact ⟨_, rfl, hrow.rats (fun r hr => ok64 (h64 r hr)), hb⟩
  · rw [hx, Prod.mk.injEq] at hr
    obtain ⟨rfl, rfl⟩ := hr
    subst hxs
    exact ⟨none, rfl, rats_nil w', hb⟩
theorem sum_64 {us : List Qn.Un} {l : List Qn.Am} {tt b e : Int} {r : Qn.R} (h : Qn.sumS us l tt = (b, r, e)) : B64 r.1 ∧ (e = 0 → Qn.RO r) ∧ (e ≠ 0 → b = 0 ∧ r = (0, 0)) := by
  by_cases he : e = 0
  · subst he
    obtain ⟨h1, h2, h3, h4, _, h6⟩ := Qn.sum_ok h
    have hr := (Qn.sumC_val (Qn.fac_un h1 h3) _ _ _ _ Qn.nil_ok (Qn.vf_ok h1 h2) h6).1
    exact ⟨ok64 hr, fun _ => hr, fun k => absurd rfl k⟩
  · have : b = 0 ∧ r = (0, 0) := by
      unfold Qn.sumS Qn.amt at h
      split at h
      · split at h
        · split at h
          · simp only [Prod.mk.injEq] at h; exact absurd h.2.2.symm he
          · simp only [Prod.mk.injEq] at h; exact ⟨h.1.symm, h.2.1.symm⟩
        · simp only [Prod.mk.injEq] at h; exact ⟨h.1.symm, h.2.1.symm⟩
      · simp only [Prod.mk.injEq] at h; exact ⟨h.1.symm, h.2.1.symm⟩
    obtain ⟨rfl, rfl⟩ := this
    exact ⟨⟨by decide, by decide⟩, fun k => absurd k he, fun _ => ⟨rfl, rfl⟩⟩
theorem conv_64 {us : List Qn.Un} {a : Qn.Am} {tt b e : Int} {r : Qn.R} (h : Qn.convertS us a tt = (b, r, e)) : B64 r.1 := by
  by_cases he : e = 0
  · subst he
    exact ok64 (Qn.convert_val h)
  · obtain ⟨_, rfl⟩ := Qn.convert_zero h he
    exact ⟨by decide, by decide⟩
/-- a row of one's own whose ratios are read and written -/
theorem OwnR.at {w : World} {base i : Nat} {v : Value} {l : List Qn.R} {r : Qn.R} (h : OwnR w base v l) (hr : l[i]? = some r) :
    ∃ g cap, v = .slice (some ⟨g, 0, none⟩) l.length cap ∧ base ≤ g ∧ g < w.heap.size ∧ w.cell? ⟨g, i * 2, none⟩ = some (.int .i64 r.1) ∧ w.cell? ⟨g, i * 2 + 1, none⟩ = some (.int .i64 r.2) ∧ w.frozen? ⟨g, i * 2, none⟩ = false ∧ w.frozen? ⟨g, i * 2 + 1, none⟩ = false := by
  rcases h.2 with ⟨hv, h0⟩ | ⟨g, cap, cur, hv, hbg, hg, _, _, _, ht⟩
  · obtain rfl := List.length_eq_zero_iff.1 h0
    simp at hr
  · obtain ⟨h1, h2⟩ := cellsR_get l i r hr
    have key : ∀ (i : Nat) (u : Value), (cellsR l)[i]? = some u → w.cell? ⟨g, i, none⟩ = some u := fun i u hu => by
      rw [← ht, List.getElem?_take] at hu
      split at hu
      · simp [World.cell?, hg]
        simpa using hu
      · cases hu
    refine ⟨g, cap, hv, hbg, (Array.getElem?_eq_some_iff.1 hg).1, key _ _ h1, key _ _ h2, by simp [World.frozen?, hg], by simp [World.frozen?, hg]⟩
theorem OwnR.set {w : World} {base i g n cap : Nat} {l : List Qn.R} (h : OwnR w base (.slice (some ⟨g, 0, none⟩) n cap) l) (hi : i < l.length) (p q : Int) :
    OwnR ((w.setCell ⟨g, i * 2, none⟩ (.int .i64 p)).setCell ⟨g, i * 2 + 1, none⟩ (.int .i64 q)) base (.slice (some ⟨g, 0, none⟩) n cap) (l.set i (p, q)) := by
  obtain ⟨h1, h2⟩ := h
  rcases h2 with ⟨hv, h0⟩ | ⟨g', cap', cur, hv, hbg, hg, h3, h4, h5, ht⟩
  · simp at hv
  · simp only [Value.slice.injEq, Option.some.injEq, Addr.mk.injEq, and_true] at hv
    obtain ⟨⟨rfl, _⟩, hn, rfl⟩ := hv
    refine ⟨by rw [cellsR_len, List.length_set], .inr ⟨g, cap, (cur.setIfInBounds (i * 2) (.int .i64 p)).setIfInBounds (i * 2 + 1) (.int .i64 q), by rw [List.length_set, hn], hbg, setCell_row (setCell_row hg), by rw [List.length_set]; exact h3, h4, by simp [h5], ?_⟩⟩
    rw [← cellsR_set l i (p, q) hi, ← ht, List.length_set]
    simp [List.take_set]
theorem bask_err {o : List Qn.R} {x : Nat × Qn.R × Qn.R} {l : List (Nat × Qn.R × Qn.R)} (h : (Qn.conv x.2.1 x.2.2 (1, 1)).2.2 ≠ 0) : Qn.bask o (x :: l) = none := by rw [Qn.bask, if_neg h]
theorem bask_far {o : List Qn.R} {t : Nat} {v f r : Qn.R} {l : List (Nat × Qn.R × Qn.R)} {x y p q e : Int} (hc : Qn.conv v f (1, 1) = (x, y, 0)) (ho : o[t]? = some r) (hs : Rt.addS r.1 r.2 x y = (p, q, e)) (h : e ≠ 0) : Qn.bask o ((t, v, f) :: l) = none := by
  rw [Qn.bask]
  simp only [hc, if_true, List.getD_eq_getElem?_getD, ho, Option.getD_some, hs]
  rw [if_neg h]
theorem bask_go {o : List Qn.R} {t : Nat} {v f r : Qn.R} {l : List (Nat × Qn.R × Qn.R)} {x y p q : Int} (hc : Qn.conv v f (1, 1) = (x, y, 0)) (ho : o[t]? = some r) (hs : Rt.addS r.1 r.2 x y = (p, q, 0)) : Qn.bask o ((t, v, f) :: l) = Qn.bask (o.set t (p, q)) l := by
  rw [Qn.bask]
  simp only [hc, if_true, List.getD_eq_getElem?_getD, ho, Option.getD_some, hs]
theorem zeros_snoc (k : Nat) : Qn.zeros k ++ [(0, 1)] = Qn.zeros (k + 1) := by unfold Qn.zeros; rw [List.replicate_succ']
end Go.Proofs.Ytpdknjbhnelidaa

/- What DeadlineSums needs: terms on top of a term; days that are added in two steps. -/
import Derived.Test.YtlbfnafniobnaaaDoorDnMath
namespace Go.Proofs.YtlbfnafniobnaaaDoor
open Go.RowKit Go.Shelf

def ShT (t : Dl.T) : Prop := ∀ d k, Dl.nds t (d + k) = (Dl.nds t d).map fun x => (x.1, x.2 + k)
theorem sh_list : ∀ ks : List Dl.T, (∀ k ∈ ks, ShT k) → ∀ d k, Dl.ndsL ks (d + k) = (Dl.ndsL ks d).map fun x => (x.1, x.2 + k)
  | [], _, _, _ => rfl
  | t :: ks, h, d, k => by rw [Dl.ndsL, Dl.ndsL, List.map_append, h t (by simp) d k, sh_list ks (fun k' h' => h k' (by simp [h'])) d k]
theorem nds_add : ∀ t, ShT t := by
  refine Dl.T.ind (P := ShT) (fun t ih => ?_)
  intro d k
  rw [Dl.nds_eq, Dl.nds_eq t d, List.map_cons, show d + k + 1 = (d + 1) + k by omega, sh_list t.kids ih]
theorem evs_map : ∀ l : List (Dl.T × Nat), evs l = ((l.map (·.1)).filter isEv).map (·.ev)
  | [] => rfl
  | x :: l => by
    have ih := evs_map l
    unfold evs at ih ⊢
    rw [List.map_cons, List.filter_cons, List.filter_cons]
    split <;> simp_all
/-- valid with k nodes on top -/
def VK (k : Nat) (t : Dl.T) (ev : Int) : Prop := (0 ≤ ev ∧ ev ≤ 1000) ∧ (∀ x ∈ Dl.nds t 1, okN x.1 ev = true ∧ x.2 + k ≤ 10) ∧ k + (Dl.nds t 1).length ≤ 40
theorem vld_iff (ev : Int) : ∀ (l : List (Dl.T × Nat)) (c : Nat), c ≤ 40 → (vld ev c l = true ↔ (∀ x ∈ l, okN x.1 ev = true ∧ x.2 ≤ 10) ∧ c + l.length ≤ 40)
  | [], c, hc => by simp [vld, hc]
  | x :: l, c, hc => by
    rw [vld]
    simp only [Bool.and_eq_true, decide_eq_true_eq, List.mem_cons, List.length_cons]
    constructor
    · rintro ⟨⟨⟨h1, h2⟩, h3⟩, h4⟩
      obtain ⟨h5, h6⟩ := (vld_iff ev l (c + 1) (by omega)).1 h4
      refine ⟨fun y hy => ?_, by omega⟩
      rcases hy with rfl | hy
      · exact ⟨h1, h3⟩
      · exact h5 y hy
    · rintro ⟨h1, h2⟩
      exact ⟨⟨⟨(h1 x (.inl rfl)).1, by omega⟩, (h1 x (.inl rfl)).2⟩, (vld_iff ev l (c + 1) (by omega)).2 ⟨fun y hy => h1 y (.inr hy), by omega⟩⟩
theorem valid_VK (t : Dl.T) (ev : Int) : validT t ev = true ↔ VK 0 t ev := by
  unfold validT VK
  rw [Bool.and_eq_true, Bool.and_eq_true, decide_eq_true_eq, decide_eq_true_eq, vld_iff ev _ 0 (by omega)]
  simp
theorem VK_mono {k k' : Nat} {t : Dl.T} {ev : Int} (hk : k' ≤ k) (h : VK k t ev) : VK k' t ev := ⟨h.1, fun x hx => ⟨(h.2.1 x hx).1, by have := (h.2.1 x hx).2; omega⟩, by have := h.2.2; omega⟩
theorem nds_one {u t : Dl.T} (hu : u.kids = [t]) : Dl.nds u 1 = (u, 1) :: (Dl.nds t 1).map fun x => (x.1, x.2 + 1) := by
  rw [Dl.nds_eq, hu, Dl.ndsL, Dl.ndsL, List.append_nil, nds_add t 1 1]
theorem VK_un {k : Nat} {u t : Dl.T} {ev : Int} (hu : u.kids = [t]) : VK k u ev ↔ okN u ev = true ∧ VK (k + 1) t ev := by
  unfold VK
  rw [nds_one hu]
  constructor
  · rintro ⟨h1, h2, h3⟩
    refine ⟨(h2 (u, 1) (by simp)).1, h1, fun x hx => ?_, by simp at h3; omega⟩
    obtain ⟨h4, h5⟩ := h2 (x.1, x.2 + 1) (List.mem_cons_of_mem _ (List.mem_map.2 ⟨x, hx, rfl⟩))
    exact ⟨h4, by simp at h5; omega⟩
  · rintro ⟨h0, h1, h2, h3⟩
    refine ⟨h1, fun x hx => ?_, by simp; omega⟩
    rcases List.mem_cons.1 hx with rfl | hx
    · have := (h2 (t, 1) (by rw [Dl.nds_eq]; simp)).2
      exact ⟨h0, by simp at this ⊢; omega⟩
    · obtain ⟨y, hy, rfl⟩ := List.mem_map.1 hx
      obtain ⟨h4, h5⟩ := h2 y hy
      exact ⟨h4, by simp; omega⟩
theorem evT_un {u t : Dl.T} (hu : u.kids = [t]) (hi : isEv u = false) : evT u = evT t := by
  unfold evT
  congr 2
  rw [nds_one hu, evs_map, evs_map, List.map_cons, List.filter_cons, if_neg (by simp [hi]), List.map_map]
  rfl
theorem dayT_un {c : Cal} {l : List Wh} {u t : Dl.T} (hu : u.kids = [t]) : dayT c l u = (dayT c l t).bind fun d => dayR (ruleS c l u [d]) := by
  rw [dayT_eq, hu, dayL_cons, dayL]
  cases dayT c l t <;> rfl
/-- N days, or business days, after t -/
def plusT (n : Int) (bz : Bool) (p : Option Addr) (cap : Nat) (t : Dl.T) : Dl.T := .node 4 n 0 bz p cap [t]
def nextT (p : Option Addr) (cap : Nat) (t : Dl.T) : Dl.T := .node 6 0 0 false p cap [t]
theorem fit4 {s : Sh} {t : Dl.T} {ev : Int} : fitB s t ev = true ↔ (0 ≤ t.n ∧ t.n ≤ s.most) ∧ (0 ≤ t.ev ∧ t.ev ≤ (if s.event then ev else 1) - 1) ∧ (s.business || !t.bz) = true ∧ s.few ≤ (t.kids.length : Int) ∧ (t.kids.length : Int) ≤ s.many := by
  simp only [fitB, Bool.and_eq_true, decide_eq_true_eq, and_assoc]
theorem ok_plus (n : Int) (bz : Bool) (p : Option Addr) (cap : Nat) (t : Dl.T) (ev : Int) : okN (plusT n bz p cap t) ev = true ↔ 0 ≤ n ∧ n ≤ 1000 := by
  show fitB ⟨1000, false, true, 1, 1⟩ (plusT n bz p cap t) ev = true ↔ _
  rw [fit4]
  simp [plusT, Dl.T.n, Dl.T.ev, Dl.T.bz, Dl.T.kids]
theorem ok_next (p : Option Addr) (cap : Nat) (t : Dl.T) (ev : Int) : okN (nextT p cap t) ev = true := by
  show fitB ⟨0, false, false, 1, 1⟩ (nextT p cap t) ev = true
  rw [fit4]
  simp [nextT, Dl.T.n, Dl.T.ev, Dl.T.bz, Dl.T.kids]
theorem day_plusf {c : Cal} {l : List Wh} (n : Int) (p : Option Addr) (cap : Nat) (t : Dl.T) : dayT c l (plusT n false p cap t) = (dayT c l t).bind fun d => dayR (d + n, 0) := by
  rw [dayT_un rfl]
  rfl
theorem day_plust {c : Cal} {l : List Wh} (n : Int) (p : Option Addr) (cap : Nat) (t : Dl.T) : dayT c l (plusT n true p cap t) = (dayT c l t).bind fun d => dayR (FA c d n) := by
  rw [dayT_un rfl]
  rfl
theorem day_next {c : Cal} {l : List Wh} (p : Option Addr) (cap : Nat) (t : Dl.T) : dayT c l (nextT p cap t) = (dayT c l t).bind fun d => dayR (FN c d) := by
  rw [dayT_un rfl]
  rfl
/-- what Eval answers, where the term has the events of t and the day D -/
def ans (t : Dl.T) (l : List Wh) (D : Option Int) : Int × Bool × Int := if ((evT t).any fun i => !(knownAt l i)) = true then (0, false, 0) else match D with
  | some d => (d, true, 0)
  | none => (0, false, 2)
open Classical in
theorem eval_ans {u t : Dl.T} {c : Cal} {l : List Wh} (he : evT u = evT t) : evalS u c l = if CalOK c ∧ VK 0 u l.length ∧ goodE l = true then ans t l (dayT c l u) else (0, false, 1) := by
  rw [evalS_eq, he]
  have : (CalOK c ∧ validT u l.length = true ∧ goodE l = true) = (CalOK c ∧ VK 0 u l.length ∧ goodE l = true) := by rw [valid_VK]
  simp only [this]
  rfl
theorem dayR_val {r : Int × Int} : dayR r = if r.2 ≠ 0 then none else if 73048 < r.1 then none else some r.1 := rfl
theorem add_two {m n d : Int} (hn : 0 ≤ n) : ((dayR (d + m, 0)).bind fun x => dayR (x + n, 0)) = dayR (d + (m + n), 0) := by
  rw [dayR_val, dayR_val]
  simp only [ne_eq, not_true_eq_false, if_false]
  by_cases h : 73048 < d + m
  · rw [if_pos h, if_pos (by omega)]
    rfl
  · rw [if_neg h]
    show dayR (d + m + n, 0) = _
    rw [dayR_val]
    simp only [ne_eq, not_true_eq_false, if_false]
    by_cases h2 : 73048 < d + m + n
    · rw [if_pos h2, if_pos (by omega)]
    · rw [if_neg h2, if_neg (by omega), Int.add_assoc]
theorem fst_eq {W : Nat → Bool} {hs : List Int} (h : Dt.Asc hs) {a b : Nat} (ha : a ≤ 73048) (hb : b ≤ 73048) {m n : Int} (hm : 0 ≤ m) (hn : 0 ≤ n) (he : Dt.earl W hs a m = Dt.earl W hs b n) : Dt.add W hs a m = Dt.add W hs b n := by
  have top : ∀ r : Nat, r ≤ 73048 → Dt.busy W hs r = true → Dt.cnt W hs r + 1 ≤ Dt.cnt W hs 73049 := fun r hr hy => by
    have s := Dt.cnt_step h (W := W) r
    rw [hy, if_pos rfl] at s
    have := (Dt.cnt_le h (W := W) (show r + 1 ≤ 73049 by omega)).1
    omega
  rcases Dt.add_spec h (W := W) ha hm with ⟨r, e1, l1, y1, c1, f1⟩ | ⟨e1, c1⟩
  · rcases Dt.add_spec h (W := W) hb hn with ⟨q, e2, l2, y2, c2, f2⟩ | ⟨e2, c2⟩
    · rw [e1, e2, show r = q by rw [← f1, ← f2, he]]
    · have := top r l1 y1
      omega
  · rcases Dt.add_spec h (W := W) hb hn with ⟨q, e2, l2, y2, c2, f2⟩ | ⟨e2, c2⟩
    · have := top q l2 y2
      omega
    · rw [e1, e2]
/-- business days in two steps, from a business day -/
theorem FA_two {c : Cal} (hc : CalOK c) {s m n : Int} (h0 : 0 ≤ s) (h1 : s ≤ 73048) (hb : Dt.busy c.wk c.hs s.toNat = true) (hm : 0 ≤ m) (hn : 0 ≤ n) :
    ((dayR (FA c s m)).bind fun x => dayR (FA c x (n + 1))) = dayR (FA c s (m + n + 1)) := by
  have hA := hc.2.2
  have e1 : FA c s m = Dt.add c.wk c.hs s.toNat m := by unfold FA; rw [if_pos ⟨hc, h0, h1, hm⟩]
  have e2 : FA c s (m + n + 1) = Dt.add c.wk c.hs s.toNat (m + n + 1) := by unfold FA; rw [if_pos ⟨hc, h0, h1, by omega⟩]
  have st := Dt.cnt_step hA (W := c.wk) s.toNat
  rw [hb, if_pos rfl] at st
  rw [e1, e2]
  rcases Dt.add_spec hA (W := c.wk) (day := s.toNat) (by omega) hm with ⟨r, h2, h3, h4, h5, _⟩ | ⟨h2, h3⟩
  · rw [h2, dayR_of (by omega)]
    show dayR (FA c r (n + 1)) = _
    have e3 : FA c r (n + 1) = Dt.add c.wk c.hs r (n + 1) := by unfold FA; rw [if_pos ⟨hc, by omega, by omega, by omega⟩, Int.toNat_natCast]
    have st2 := Dt.cnt_step hA (W := c.wk) r
    rw [h4, if_pos rfl] at st2
    rw [e3, fst_eq hA (W := c.wk) h3 (show s.toNat ≤ 73048 by omega) (show 0 ≤ n + 1 by omega) (show 0 ≤ m + n + 1 by omega)]
    unfold Dt.earl at h5 ⊢
    rw [if_neg (by omega), if_neg (by omega)]
    split at h5 <;> omega
  · rw [h2]
    rcases Dt.add_spec hA (W := c.wk) (day := s.toNat) (by omega) (show 0 ≤ m + n + 1 by omega) with ⟨q, k2, k3, k4, k5, _⟩ | ⟨k2, k3⟩
    · exfalso
      have s2 := Dt.cnt_step hA (W := c.wk) q
      rw [k4, if_pos rfl] at s2
      have := (Dt.cnt_le hA (W := c.wk) (show q + 1 ≤ 73049 by omega)).1
      unfold Dt.earl at h3 k5
      rw [if_neg (by omega)] at k5
      split at h3 <;> omega
    · rw [k2]
      rfl
/-- the next business day is one -/
theorem FN_busy {c : Cal} (hc : CalOK c) {d s : Int} (h0 : 0 ≤ d) (h1 : d ≤ 73048) (h : dayR (FN c d) = some s) : 0 ≤ s ∧ s ≤ 73048 ∧ Dt.busy c.wk c.hs s.toNat = true := by
  obtain ⟨h, _⟩ := dayR_some h
  unfold FN at h
  rw [if_pos ⟨hc, h0, h1⟩] at h
  rcases Dt.add_spec hc.2.2 (W := c.wk) (day := d.toNat) (by omega) (Int.le_refl 0) with ⟨r, h2, h3, h4, _⟩ | ⟨h2, _⟩
  · rw [h2] at h
    cases h
    exact ⟨by omega, by omega, by rw [Int.toNat_natCast]; exact h4⟩
  · rw [h2] at h
    cases h
theorem FB_busy {c : Cal} (hc : CalOK c) {s : Int} (h0 : 0 ≤ s) (h1 : s ≤ 73048) (hb : Dt.busy c.wk c.hs s.toNat = true) : FB c s = true := by
  unfold FB
  rw [if_pos ⟨hc, h0, h1⟩]
  exact hb
theorem ans_none {t : Dl.T} {l : List Wh} (D : Option Int) (h : ((evT t).any fun i => !(knownAt l i)) = true) : ans t l D = (0, false, 0) := by unfold ans; rw [if_pos h]
theorem ans_known {t : Dl.T} {l : List Wh} (D : Option Int) (h : ¬ ((evT t).any fun i => !(knownAt l i)) = true) : ans t l D = match D with
  | some d => (d, true, 0)
  | none => (0, false, 2) := by unfold ans; rw [if_neg h]
open Classical in
/-- all that DeadlineSums asks -/
theorem sums_facts (t : Dl.T) (c : Cal) (l : List Wh) {m n : Int} (hm0 : 0 ≤ m) (hm1 : m ≤ 500) (hn0 : 0 ≤ n) (hn1 : n ≤ 500) (p1 p2 p3 p4 p5 p6 p7 p8 : Option Addr) :
    evalS (plusT n false p1 1 (plusT m false p2 1 t)) c l = (0, false, 1) ∨
    (evalS (plusT n false p1 1 (plusT m false p2 1 t)) c l).2.2 ≠ 1 ∧ evalS (plusT (m + n) false p3 1 t) c l = evalS (plusT n false p1 1 (plusT m false p2 1 t)) c l ∧
    (evalS (plusT (n + 1) true p4 1 (plusT m true p5 1 (nextT p6 1 t))) c l = (0, false, 1) ∨ ¬ m + n < 1000 ∨
      evalS (plusT (m + n + 1) true p7 1 (nextT p6 1 t)) c l = evalS (plusT (n + 1) true p4 1 (plusT m true p5 1 (nextT p6 1 t))) c l) ∧
    evalS (nextT p6 1 t) c l = evalS (plusT 0 true p8 1 t) c l ∧
    (evalS (plusT 0 true p8 1 t) c l = (0, false, 2) ∨ (evalS (plusT 0 true p8 1 t) c l = (0, false, 0) ∧ evalS (plusT n false p1 1 (plusT m false p2 1 t)) c l = (0, false, 0)) ∨
      ∃ p, evalS (plusT 0 true p8 1 t) c l = (p, true, 0) ∧ FB c p = true ∧ (evalS (plusT n false p1 1 (plusT m false p2 1 t)) c l = (0, false, 2) ∨ ∃ a, evalS (plusT n false p1 1 (plusT m false p2 1 t)) c l = (a, true, 0))) := by
  have E1 : evT (plusT n false p1 1 (plusT m false p2 1 t)) = evT t := (evT_un rfl rfl).trans (evT_un rfl rfl)
  have E2 : evT (plusT (m + n) false p3 1 t) = evT t := evT_un rfl rfl
  have E3 : evT (nextT p6 1 t) = evT t := evT_un rfl rfl
  have E4 : evT (plusT (n + 1) true p4 1 (plusT m true p5 1 (nextT p6 1 t))) = evT t := ((evT_un rfl rfl).trans (evT_un rfl rfl)).trans E3
  have E5 : evT (plusT (m + n + 1) true p7 1 (nextT p6 1 t)) = evT t := (evT_un rfl rfl).trans E3
  have E6 : evT (plusT 0 true p8 1 t) = evT t := evT_un rfl rfl
  have V1 : VK 0 (plusT n false p1 1 (plusT m false p2 1 t)) l.length ↔ VK 2 t l.length := by
    rw [VK_un (t := plusT m false p2 1 t) rfl, VK_un (t := t) rfl, ok_plus, ok_plus]
    exact ⟨fun h => h.2.2, fun h => ⟨by omega, by omega, h⟩⟩
  have V2 : VK 0 (plusT (m + n) false p3 1 t) l.length ↔ VK 1 t l.length := by
    rw [VK_un (t := t) rfl, ok_plus]
    exact ⟨fun h => h.2, fun h => ⟨by omega, h⟩⟩
  have V3 : VK 0 (nextT p6 1 t) l.length ↔ VK 1 t l.length := by
    rw [VK_un (t := t) rfl, ok_next]
    exact ⟨fun h => h.2, fun h => ⟨rfl, h⟩⟩
  have V4 : VK 0 (plusT (n + 1) true p4 1 (plusT m true p5 1 (nextT p6 1 t))) l.length ↔ VK 3 t l.length := by
    rw [VK_un (t := plusT m true p5 1 (nextT p6 1 t)) rfl, VK_un (t := nextT p6 1 t) rfl, VK_un (t := t) rfl, ok_plus, ok_plus, ok_next]
    exact ⟨fun h => h.2.2.2, fun h => ⟨by omega, by omega, rfl, h⟩⟩
  have V6 : VK 0 (plusT 0 true p8 1 t) l.length ↔ VK 1 t l.length := by
    rw [VK_un (t := t) rfl, ok_plus]
    exact ⟨fun h => h.2, fun h => ⟨by omega, h⟩⟩
  rw [eval_ans E1, eval_ans E2, eval_ans E3, eval_ans E4, eval_ans E5, eval_ans E6, V1, V2, V3, V4, V6]
  by_cases h : CalOK c ∧ VK 2 t l.length ∧ goodE l = true
  · obtain ⟨hc, hv, hg⟩ := h
    have hv1 : VK 1 t l.length := VK_mono (by omega) hv
    have q2 : CalOK c ∧ VK 2 t l.length ∧ goodE l = true := ⟨hc, hv, hg⟩
    have q1 : CalOK c ∧ VK 1 t l.length ∧ goodE l = true := ⟨hc, hv1, hg⟩
    simp only [if_pos q2, if_pos q1]
    refine .inr ?_
    by_cases hk : ((evT t).any fun i => !(knownAt l i)) = true
    · simp only [ans_none _ hk]
      refine ⟨by simp, trivial, ?_, trivial, .inr (.inl ⟨trivial, trivial⟩)⟩
      by_cases h3 : CalOK c ∧ VK 3 t l.length ∧ goodE l = true
      · by_cases hmn : m + n < 1000
        · have h5 : CalOK c ∧ VK 0 (plusT (m + n + 1) true p7 1 (nextT p6 1 t)) l.length ∧ goodE l = true := ⟨hc, by rw [VK_un (t := nextT p6 1 t) rfl, ok_plus, VK_un (t := t) rfl, ok_next]; exact ⟨by omega, rfl, VK_mono (by omega) h3.2.1⟩, hg⟩
          simp only [if_pos h3, if_pos h5]
          exact .inr (.inr trivial)
        · exact .inr (.inl hmn)
      · rw [if_neg h3]
        exact .inl rfl
    · have hvt := (valid_VK t l.length).2 (VK_mono (by omega) hv)
      have hgood := good_all hvt hk
      have dr : ∀ d, dayT c l t = some d → 0 ≤ d ∧ d ≤ 73048 := fun d hd => day_range hc hg hgood hd
      simp only [ans_known _ hk]
      have D1 : dayT c l (plusT n false p1 1 (plusT m false p2 1 t)) = dayT c l (plusT (m + n) false p3 1 t) := by
        rw [day_plusf, day_plusf, day_plusf, Option.bind_assoc]
        cases dayT c l t with
        | none => rfl
        | some d => exact add_two hn0
      have D3 : dayT c l (nextT p6 1 t) = dayT c l (plusT 0 true p8 1 t) := by
        rw [day_next, day_plust]
        cases hd : dayT c l t with
        | none => rfl
        | some d =>
          obtain ⟨h0, h1⟩ := dr d hd
          show dayR (FN c d) = dayR (FA c d 0)
          rw [FN_FA hc h0 h1]
      refine ⟨?_, by rw [D1], ?_, by rw [D3], ?_⟩
      · cases dayT c l (plusT n false p1 1 (plusT m false p2 1 t)) <;> simp
      · by_cases h3 : CalOK c ∧ VK 3 t l.length ∧ goodE l = true
        · by_cases hmn : m + n < 1000
          · have h5 : CalOK c ∧ VK 0 (plusT (m + n + 1) true p7 1 (nextT p6 1 t)) l.length ∧ goodE l = true := ⟨hc, by rw [VK_un (t := nextT p6 1 t) rfl, ok_plus, VK_un (t := t) rfl, ok_next]; exact ⟨by omega, rfl, VK_mono (by omega) h3.2.1⟩, hg⟩
            simp only [if_pos h3, if_pos h5]
            refine .inr (.inr ?_)
            rw [day_plust, day_plust, day_plust, day_next, Option.bind_assoc]
            cases hd : dayT c l t with
            | none => rfl
            | some d =>
              obtain ⟨h0, h1⟩ := dr d hd
              simp only [Option.bind_some]
              cases hs : dayR (FN c d) with
              | none => rfl
              | some s =>
                obtain ⟨s0, s1, hb⟩ := FN_busy hc h0 h1 hs
                simp only [Option.bind_some]
                rw [FA_two hc s0 s1 hb hm0 hn0]
          · exact .inr (.inl hmn)
        · rw [if_neg h3]
          exact .inl rfl
      · rw [← D3]
        cases hx : dayT c l (nextT p6 1 t) with
        | none => exact .inl rfl
        | some p =>
          refine .inr (.inr ⟨p, rfl, ?_, ?_⟩)
          · rw [day_next] at hx
            cases hd : dayT c l t with
            | none => rw [hd] at hx; cases hx
            | some d =>
              rw [hd] at hx
              obtain ⟨h0, h1⟩ := dr d hd
              obtain ⟨s0, s1, hb⟩ := FN_busy hc h0 h1 hx
              exact FB_busy hc s0 s1 hb
          · cases dayT c l (plusT n false p1 1 (plusT m false p2 1 t)) with
            | none => exact .inl rfl
            | some a => exact .inr ⟨a, rfl⟩
  · rw [if_neg h]
    exact .inl rfl
/-- terms that differ in where their kids lie alone -/
def Sim (t t' : Dl.T) : Prop := (∀ k ev, VK k t ev ↔ VK k t' ev) ∧ evT t = evT t' ∧ ∀ c l, dayT c l t = dayT c l t'
theorem sim_refl (t : Dl.T) : Sim t t := ⟨fun _ _ => Iff.rfl, rfl, fun _ _ => rfl⟩
theorem sim_plus {t t' : Dl.T} (h : Sim t t') (n : Int) (bz : Bool) (p p' : Option Addr) (cap cap' : Nat) : Sim (plusT n bz p cap t) (plusT n bz p' cap' t') :=
  ⟨fun k ev => by rw [VK_un (u := plusT n bz p cap t) (t := t) rfl, VK_un (u := plusT n bz p' cap' t') (t := t') rfl, ok_plus, ok_plus, h.1], by rw [evT_un (u := plusT n bz p cap t) (t := t) rfl rfl, evT_un (u := plusT n bz p' cap' t') (t := t') rfl rfl, h.2.1], fun c l => by rw [dayT_un (u := plusT n bz p cap t) (t := t) rfl, dayT_un (u := plusT n bz p' cap' t') (t := t') rfl, h.2.2]; rfl⟩
theorem sim_next {t t' : Dl.T} (h : Sim t t') (p p' : Option Addr) (cap cap' : Nat) : Sim (nextT p cap t) (nextT p' cap' t') :=
  ⟨fun k ev => by rw [VK_un (u := nextT p cap t) (t := t) rfl, VK_un (u := nextT p' cap' t') (t := t') rfl, ok_next, ok_next, h.1], by rw [evT_un (u := nextT p cap t) (t := t) rfl rfl, evT_un (u := nextT p' cap' t') (t := t') rfl rfl, h.2.1], fun c l => by rw [dayT_un (u := nextT p cap t) (t := t) rfl, dayT_un (u := nextT p' cap' t') (t := t') rfl, h.2.2]; rfl⟩
theorem sim_eval {t t' : Dl.T} (h : Sim t t') (c : Cal) (l : List Wh) : evalS t c l = evalS t' c l := by
  rw [eval_ans (t := t') h.2.1, eval_ans (t := t') rfl, h.1, h.2.2]
end Go.Proofs.YtlbfnafniobnaaaDoor

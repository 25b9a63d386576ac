/- What DeadlineExtremes needs: the earliest and the latest of terms, in whatever order. -/
import Derived.Test.YtlbfnafniobnaaaDoorDnV
namespace Go.Proofs.YtlbfnafniobnaaaDoor
open Go.RowKit Go.Shelf

/-- the earliest (7) or the latest (8) of terms -/
def exT (kd : Int) (p : Option Addr) (cap : Nat) (l : List Dl.T) : Dl.T := .node kd 0 0 false p cap l
def exD (kd : Int) (ds : List Int) : Int := if kd = 7 then Lib.minOf ds.reverse else Lib.maxOf ds.reverse
theorem mem_ndsL {x : Dl.T × Nat} {d : Nat} : ∀ {ks : List Dl.T}, x ∈ Dl.ndsL ks d ↔ ∃ t ∈ ks, x ∈ Dl.nds t d
  | [] => by simp [Dl.ndsL]
  | t :: ks => by simp [Dl.ndsL, mem_ndsL (ks := ks)]
theorem len_ndsL {t : Dl.T} {d : Nat} : ∀ {ks : List Dl.T}, t ∈ ks → (Dl.nds t d).length ≤ (Dl.ndsL ks d).length
  | [], h => by cases h
  | k :: ks, h => by
    rw [Dl.ndsL, List.length_append]
    rcases List.mem_cons.1 h with rfl | h
    · omega
    · have := len_ndsL (d := d) h
      omega
def VL (ks : List Dl.T) (ev : Int) : Prop := (∀ x ∈ Dl.ndsL ks 1, okN x.1 ev = true ∧ x.2 + 1 ≤ 10) ∧ 1 + (Dl.ndsL ks 1).length ≤ 40
theorem nds_ex (kd : Int) (p : Option Addr) (cap : Nat) (l : List Dl.T) : Dl.nds (exT kd p cap l) 1 = (exT kd p cap l, 1) :: (Dl.ndsL l 1).map fun x => (x.1, x.2 + 1) := by
  rw [Dl.nds_eq]
  congr 1
  exact sh_list l (fun k _ => nds_add k) 1 1
theorem ok_ex {kd : Int} (hk : kd = 7 ∨ kd = 8) (p : Option Addr) (cap : Nat) (l : List Dl.T) (ev : Int) : okN (exT kd p cap l) ev = true ↔ 1 ≤ l.length ∧ l.length ≤ 40 := by
  rcases hk with rfl | rfl
  · show fitB ⟨0, false, false, 1, 40⟩ (exT 7 p cap l) ev = true ↔ _
    rw [fit4]
    simp [exT, Dl.T.n, Dl.T.ev, Dl.T.bz, Dl.T.kids]
    omega
  · show fitB ⟨0, false, false, 1, 40⟩ (exT 8 p cap l) ev = true ↔ _
    rw [fit4]
    simp [exT, Dl.T.n, Dl.T.ev, Dl.T.bz, Dl.T.kids]
    omega
theorem VK_ex {kd : Int} (hk : kd = 7 ∨ kd = 8) (p : Option Addr) (cap : Nat) (l : List Dl.T) (ev : Int) : VK 0 (exT kd p cap l) ev ↔ (0 ≤ ev ∧ ev ≤ 1000) ∧ (1 ≤ l.length ∧ l.length ≤ 40) ∧ VL l ev := by
  unfold VK VL
  rw [nds_ex]
  constructor
  · rintro ⟨h1, h2, h3⟩
    refine ⟨h1, (ok_ex hk p cap l ev).1 (h2 (exT kd p cap l, 1) (by simp)).1, fun x hx => ?_, by simp at h3; omega⟩
    obtain ⟨h4, h5⟩ := h2 (x.1, x.2 + 1) (List.mem_cons_of_mem _ (List.mem_map.2 ⟨x, hx, rfl⟩))
    exact ⟨h4, by simp at h5; omega⟩
  · rintro ⟨h1, h2, h3, h4⟩
    refine ⟨h1, fun x hx => ?_, by simp; omega⟩
    rcases List.mem_cons.1 hx with rfl | hx
    · exact ⟨(ok_ex hk p cap l ev).2 h2, by simp⟩
    · obtain ⟨y, hy, rfl⟩ := List.mem_map.1 hx
      obtain ⟨h5, h6⟩ := h3 y hy
      exact ⟨h5, by simp; omega⟩
theorem VL_mem {l : List Dl.T} {ev : Int} (hr : 0 ≤ ev ∧ ev ≤ 1000) (h : VL l ev) {t : Dl.T} (ht : t ∈ l) : VK 0 t ev :=
  ⟨hr, fun x hx => by
    obtain ⟨h1, h2⟩ := h.1 x (mem_ndsL.2 ⟨t, ht, hx⟩)
    exact ⟨h1, by omega⟩, by have := h.2; have := len_ndsL (d := 1) ht; omega⟩
/-- an event of the terms is not known -/
def UK (l : List Wh) (ks : List Dl.T) : Prop := ∃ t ∈ ks, ∃ x ∈ Dl.nds t 1, isEv x.1 = true ∧ knownAt l x.1.ev = false
theorem unknown_iff {t : Dl.T} {l : List Wh} : ((evT t).any fun i => !(knownAt l i)) = true ↔ ∃ x ∈ Dl.nds t 1, isEv x.1 = true ∧ knownAt l x.1.ev = false := by
  rw [List.any_eq_true]
  constructor
  · rintro ⟨i, hi, h⟩
    obtain ⟨x, hx, h1, rfl⟩ := evT_in hi
    exact ⟨x, hx, h1, by simpa using h⟩
  · rintro ⟨x, hx, h1, h2⟩
    exact ⟨_, mem_evT hx h1, by simp [h2]⟩
theorem unknown_ex {kd : Int} (hk : kd = 7 ∨ kd = 8) {p : Option Addr} {cap : Nat} {ks : List Dl.T} {l : List Wh} : ((evT (exT kd p cap ks)).any fun i => !(knownAt l i)) = true ↔ UK l ks := by
  rw [unknown_iff, nds_ex]
  constructor
  · rintro ⟨x, hx, h1, h2⟩
    rcases List.mem_cons.1 hx with rfl | hx
    · rcases hk with rfl | rfl <;> cases h1
    · obtain ⟨y, hy, rfl⟩ := List.mem_map.1 hx
      obtain ⟨t, ht, hy⟩ := mem_ndsL.1 hy
      exact ⟨t, ht, y, hy, h1, h2⟩
  · rintro ⟨t, ht, x, hx, h1, h2⟩
    exact ⟨(x.1, x.2 + 1), List.mem_cons_of_mem _ (List.mem_map.2 ⟨x, mem_ndsL.2 ⟨t, ht, hx⟩, rfl⟩), h1, h2⟩
theorem dayL_app {c : Cal} {l : List Wh} : ∀ {a b : List Dl.T} {x y : List Int}, dayL c l a = some x → dayL c l b = some y → dayL c l (a ++ b) = some (x ++ y)
  | [], b, x, y, h1, h2 => by
    rw [dayL] at h1
    cases h1
    exact h2
  | t :: a, b, x, y, h1, h2 => by
    rw [dayL_cons] at h1
    cases ht : dayT c l t with
    | none => rw [ht] at h1; cases h1
    | some d =>
      cases hs : dayL c l a with
      | none => rw [ht, hs] at h1; cases h1
      | some ds =>
        rw [ht, hs] at h1
        cases h1
        rw [List.cons_append, dayL_cons, ht, dayL_app hs h2]
        rfl
theorem dayL_get {c : Cal} {l : List Wh} : ∀ {a : List Dl.T} {x : List Int}, dayL c l a = some x → ∀ (i : Nat) t, a[i]? = some t → ∃ d, x[i]? = some d ∧ dayT c l t = some d
  | [], x, _, i, t, h => by simp at h
  | k :: a, x, h1, i, t, h => by
    rw [dayL_cons] at h1
    cases ht : dayT c l k with
    | none => rw [ht] at h1; cases h1
    | some d =>
      cases hs : dayL c l a with
      | none => rw [ht, hs] at h1; cases h1
      | some ds =>
        rw [ht, hs] at h1
        cases h1
        cases i with
        | zero =>
          obtain rfl : k = t := by simpa using h
          exact ⟨d, rfl, ht⟩
        | succ i => simpa using dayL_get hs i t (by simpa using h)
theorem dayL_one {c : Cal} {l : List Wh} {t : Dl.T} {d : Int} (h : dayT c l t = some d) : dayL c l [t] = some [d] := by
  rw [dayL_cons, h, dayL]
theorem dayL_rev {c : Cal} {l : List Wh} : ∀ {a : List Dl.T} {x : List Int}, dayL c l a = some x → dayL c l a.reverse = some x.reverse
  | [], x, h => by
    rw [dayL] at h
    cases h
    rw [List.reverse_nil, dayL, List.reverse_nil]
  | k :: a, x, h1 => by
    rw [dayL_cons] at h1
    cases ht : dayT c l k with
    | none => rw [ht] at h1; cases h1
    | some d =>
      cases hs : dayL c l a with
      | none => rw [ht, hs] at h1; cases h1
      | some ds =>
        rw [ht, hs] at h1
        cases h1
        rw [List.reverse_cons, List.reverse_cons]
        exact dayL_app (dayL_rev hs) (dayL_one ht)
theorem min_same {a b : List Int} (ha : a ≠ []) (hb : b ≠ []) (h1 : ∀ x ∈ a, x ∈ b) (h2 : ∀ x ∈ b, x ∈ a) : Lib.minOf a = Lib.minOf b := by
  have p := min_spec ha
  have q := min_spec hb
  have := p.2 _ (h2 _ q.1)
  have := q.2 _ (h1 _ p.1)
  omega
theorem max_same {a b : List Int} (ha : a ≠ []) (hb : b ≠ []) (h1 : ∀ x ∈ a, x ∈ b) (h2 : ∀ x ∈ b, x ∈ a) : Lib.maxOf a = Lib.maxOf b := by
  have p := max_spec ha
  have q := max_spec hb
  have := p.2 _ (h2 _ q.1)
  have := q.2 _ (h1 _ p.1)
  omega
theorem ne_nil_of {α : Type} {l : List α} (h : 1 ≤ l.length) : l ≠ [] := by
  rintro rfl
  simp at h
theorem day_ex {c : Cal} {l : List Wh} {kd : Int} (hk : kd = 7 ∨ kd = 8) {p : Option Addr} {cap : Nat} {ks : List Dl.T} {ds : List Int} (h : dayL c l ks = some ds) (h1 : 1 ≤ ks.length) (hr : ∀ d ∈ ds, 0 ≤ d ∧ d ≤ 73048) : dayT c l (exT kd p cap ks) = some (exD kd ds) := by
  rw [dayT_eq, show (exT kd p cap ks).kids = ks from rfl, h]
  have hl := dayL_len h
  have hn : ds.reverse ≠ [] := ne_nil_of (by rw [List.length_reverse]; omega)
  rcases hk with rfl | rfl
  · show dayR (ruleS c l (exT 7 p cap ks) ds.reverse) = _
    rw [ruleS_7 rfl]
    exact dayR_of (hr _ (List.mem_reverse.1 (min_spec hn).1)).2
  · show dayR (ruleS c l (exT 8 p cap ks) ds.reverse) = _
    rw [ruleS_8 rfl]
    exact dayR_of (hr _ (List.mem_reverse.1 (max_spec hn).1)).2
open Classical in
theorem eval_ex {kd : Int} (hk : kd = 7 ∨ kd = 8) (p : Option Addr) (cap : Nat) (ks : List Dl.T) (c : Cal) (l : List Wh) : evalS (exT kd p cap ks) c l =
    if CalOK c ∧ ((0 ≤ (l.length : Int) ∧ (l.length : Int) ≤ 1000) ∧ (1 ≤ ks.length ∧ ks.length ≤ 40) ∧ VL ks l.length) ∧ goodE l = true then (if UK l ks then ((0 : Int), false, (0 : Int)) else match dayL c l ks with
      | some ds => (exD kd ds, true, (0 : Int))
      | none => ((0 : Int), false, (2 : Int))) else ((0 : Int), false, (1 : Int)) := by
  rw [eval_ans (t := exT kd p cap ks) rfl, VK_ex hk]
  by_cases h : CalOK c ∧ ((0 ≤ (l.length : Int) ∧ (l.length : Int) ≤ 1000) ∧ (1 ≤ ks.length ∧ ks.length ≤ 40) ∧ VL ks l.length) ∧ goodE l = true
  · rw [if_pos h, if_pos h]
    by_cases hu : UK l ks
    · rw [if_pos hu, ans_none _ ((unknown_ex hk).2 hu)]
    · rw [if_neg hu, ans_known _ (fun h' => hu ((unknown_ex hk).1 h'))]
      cases hd : dayL c l ks with
      | none =>
        rw [dayT_eq, show (exT kd p cap ks).kids = ks from rfl, hd]
      | some ds =>
        rw [day_ex hk hd h.2.1.2.1.1 (fun d hm => ?_)]
        exact (run_list ks (fun k _ => run_day h.1 h.2.2 k) 1 (fun x hx => by
          refine ⟨(h.2.1.2.2.1 x hx).1, fun hi => ?_⟩
          obtain ⟨t, ht, hx⟩ := mem_ndsL.1 hx
          cases hkn : knownAt l x.1.ev with
          | true => rfl
          | false => exact absurd ⟨t, ht, x, hx, hi, hkn⟩ hu)).1 ds hd d hm
  · rw [if_neg h, if_neg h]
/-- all that DeadlineExtremes asks -/
theorem extremes_facts (ks : List Dl.T) (c : Cal) (l : List Wh) (p : Option Addr) (cap : Nat) :
    (evalS (exT 7 p cap ks) c l = (0, false, 1) ∧ evalS (exT 8 p cap ks) c l = (0, false, 1)) ∨ (evalS (exT 7 p cap ks) c l = (0, false, 0) ∧ evalS (exT 8 p cap ks) c l = (0, false, 0)) ∨
    (evalS (exT 7 p cap ks) c l = (0, false, 2) ∧ evalS (exT 8 p cap ks) c l = (0, false, 2)) ∨
    ∃ (ds : List Int) (a b : Int), evalS (exT 7 p cap ks) c l = (a, true, 0) ∧ evalS (exT 8 p cap ks) c l = (b, true, 0) ∧ ds.length = ks.length ∧ 1 ≤ ks.length ∧ ks.length ≤ 40 ∧ a ∈ ds ∧ b ∈ ds ∧
      (∀ (i : Nat) t, ks[i]? = some t → ∃ d, ds[i]? = some d ∧ evalS t c l = (d, true, 0) ∧ a ≤ d ∧ d ≤ b) ∧
      ∀ t0, ks[0]? = some t0 → (∀ p' cap' kd, kd = 7 ∨ kd = 8 → evalS (exT kd p' cap' (ks.reverse ++ [t0])) c l = (0, false, 1)) ∨ (∀ p' cap', evalS (exT 7 p' cap' (ks.reverse ++ [t0])) c l = (a, true, 0) ∧ evalS (exT 8 p' cap' (ks.reverse ++ [t0])) c l = (b, true, 0)) := by
  rw [eval_ex (.inl rfl), eval_ex (.inr rfl)]
  by_cases h : CalOK c ∧ ((0 ≤ (l.length : Int) ∧ (l.length : Int) ≤ 1000) ∧ (1 ≤ ks.length ∧ ks.length ≤ 40) ∧ VL ks l.length) ∧ goodE l = true
  · simp only [if_pos h]
    by_cases hu : UK l ks
    · simp only [if_pos hu]
      exact .inr (.inl ⟨trivial, trivial⟩)
    · simp only [if_neg hu]
      refine .inr (.inr ?_)
      cases hd : dayL c l ks with
      | none => exact .inl ⟨rfl, rfl⟩
      | some ds =>
        have hlen := dayL_len hd
        have hn : ds.reverse ≠ [] := ne_nil_of (by rw [List.length_reverse]; omega)
        have mn := min_spec hn
        have mx := max_spec hn
        refine .inr ⟨ds, _, _, rfl, rfl, hlen, h.2.1.2.1.1, h.2.1.2.1.2, List.mem_reverse.1 mn.1, List.mem_reverse.1 mx.1, fun i t ht => ?_, fun t0 ht0 => ?_⟩
        · obtain ⟨d, hi, hdt⟩ := dayL_get hd i t ht
          have hmem := List.mem_of_getElem? hi
          refine ⟨d, hi, ?_, mn.2 d (List.mem_reverse.2 hmem), mx.2 d (List.mem_reverse.2 hmem)⟩
          have htm := List.mem_of_getElem? ht
          rw [eval_ans (t := t) rfl, if_pos ⟨h.1, VL_mem h.2.1.1 h.2.1.2.2 htm, h.2.2⟩, ans_known _ (fun h' => hu (by
            obtain ⟨x, hx, h1, h2⟩ := unknown_iff.1 h'
            exact ⟨t, htm, x, hx, h1, h2⟩)), hdt]
        · obtain ⟨d0, hi0, hdt0⟩ := dayL_get hd 0 t0 ht0
          have hm0 := List.mem_of_getElem? hi0
          have htm0 := List.mem_of_getElem? ht0
          have hT := dayL_app (dayL_rev hd) (dayL_one hdt0)
          have sub : ∀ t ∈ ks.reverse ++ [t0], t ∈ ks := fun t ht => by
            rcases List.mem_append.1 ht with ht | ht
            · exact List.mem_reverse.1 ht
            · rw [List.mem_singleton] at ht
              rw [ht]
              exact htm0
          have hu' : ¬ UK l (ks.reverse ++ [t0]) := fun ⟨t, ht, x, hx, h1, h2⟩ => hu ⟨t, sub t ht, x, hx, h1, h2⟩
          by_cases hv : CalOK c ∧ ((0 ≤ (l.length : Int) ∧ (l.length : Int) ≤ 1000) ∧ (1 ≤ (ks.reverse ++ [t0]).length ∧ (ks.reverse ++ [t0]).length ≤ 40) ∧ VL (ks.reverse ++ [t0]) l.length) ∧ goodE l = true
          · refine .inr fun p' cap' => ?_
            have hn' : (ds.reverse ++ [d0]).reverse ≠ [] := ne_nil_of (by simp)
            have s1 : ∀ x ∈ (ds.reverse ++ [d0]).reverse, x ∈ ds.reverse := fun x hx => by
              rcases List.mem_append.1 (List.mem_reverse.1 hx) with hx | hx
              · exact hx
              · rw [List.mem_singleton] at hx
                rw [hx]
                exact List.mem_reverse.2 hm0
            have s2 : ∀ x ∈ ds.reverse, x ∈ (ds.reverse ++ [d0]).reverse := fun x hx => List.mem_reverse.2 (List.mem_append_left _ hx)
            rw [eval_ex (.inl rfl), eval_ex (.inr rfl), if_pos hv, if_pos hv, if_neg hu', if_neg hu', hT]
            exact ⟨by show (exD 7 _, true, (0 : Int)) = _; unfold exD; rw [if_pos rfl, if_pos rfl, min_same hn' hn s1 s2], by show (exD 8 _, true, (0 : Int)) = _; unfold exD; rw [if_neg (by decide), if_neg (by decide), max_same hn' hn s1 s2]⟩
          · refine .inl fun p' cap' kd hk => ?_
            rw [eval_ex hk, if_neg hv]
  · simp only [if_neg h]
    exact .inl ⟨trivial, trivial⟩
end Go.Proofs.YtlbfnafniobnaaaDoor

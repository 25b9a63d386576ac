/- Monotony: the day of a term does not decrease with its events. -/
import Derived.Test.YtlbfnafniobnaaaDoorDlX
namespace Go.Proofs.YtlbfnafniobnaaaDoor
open Go.RowKit Go.Shelf

theorem ordL_get : ∀ {a b : List Wh}, ordL a b = true → ∀ i : Nat, (a[i]? = none ∧ b[i]? = none) ∨ ∃ x y, a[i]? = some x ∧ b[i]? = some y ∧ ordB x y = true
  | [], [], _, i => .inl ⟨by simp, by simp⟩
  | [], y :: ys, h, _ => by cases h
  | x :: xs, [], h, _ => by cases h
  | x :: xs, y :: ys, h, i => by
    rw [ordL, Bool.and_eq_true] at h
    cases i with
    | zero => exact .inr ⟨x, y, rfl, rfl, h.1⟩
    | succ i => simpa using ordL_get h.2 i
theorem ordB_known {x y : Wh} (h : ordB x y = true) : x.known = y.known := by
  unfold ordB at h
  cases hx : x.known <;> cases hy : y.known <;> simp_all
theorem ordB_le {x y : Wh} (h : ordB x y = true) (hk : x.known = true) : x.day < y.day ∨ (x.day = y.day ∧ x.minute ≤ y.minute) := by
  have hy := (ordB_known h).symm.trans hk
  unfold ordB at h
  rw [hk, hy] at h
  simpa using h
theorem ordL_known {a b : List Wh} (h : ordL a b = true) (i : Int) : knownAt a i = knownAt b i := by
  unfold knownAt
  rcases ordL_get h i.toNat with ⟨h1, h2⟩ | ⟨x, y, h1, h2, ho⟩
  · rw [h1, h2]
  · rw [h1, h2]; exact ordB_known ho
theorem ordL_wh {a b : List Wh} (h : ordL a b = true) {i : Int} (hk : knownAt a i = true) : (whAt a i).day < (whAt b i).day ∨ ((whAt a i).day = (whAt b i).day ∧ (whAt a i).minute ≤ (whAt b i).minute) := by
  unfold knownAt at hk
  unfold whAt
  rcases ordL_get h i.toNat with ⟨h1, h2⟩ | ⟨x, y, h1, h2, ho⟩
  · rw [h1] at hk; cases hk
  · rw [h1] at hk
    rw [h1, h2]
    exact ordB_le ho hk
theorem add_mono {W : Nat → Bool} {hs : List Int} (h : Dt.Asc hs) {a b : Nat} (hab : a ≤ b) (hb : b ≤ 73048) {n : Int} (hn : 0 ≤ n) {r : Int} (hr : Dt.add W hs b n = (r, 0)) : ∃ q : Int, Dt.add W hs a n = (q, 0) ∧ q ≤ r := by
  have he : Dt.earl W hs a n ≤ Dt.earl W hs b n := by
    have m1 := (Dt.cnt_le h (W := W) hab).1
    have m2 := (Dt.cnt_le h (W := W) (show a + 1 ≤ b + 1 by omega)).1
    unfold Dt.earl; split <;> omega
  rcases Dt.add_spec h (W := W) (day := b) hb hn with ⟨r', e', l', by', c', f'⟩ | ⟨e', _⟩
  · rw [e'] at hr
    cases hr
    rcases Dt.add_spec h (W := W) (day := a) (by omega) hn with ⟨q, e, l, _, c, f⟩ | ⟨e, c⟩
    · exact ⟨q, e, by have := Dt.fst_mono h (W := W) he; omega⟩
    · exfalso
      have s := Dt.cnt_step h (W := W) r'
      rw [by', if_pos rfl] at s
      have := (Dt.cnt_le h (W := W) (show r' + 1 ≤ 73049 by omega)).1
      omega
  · rw [e'] at hr
    cases hr
theorem FA_mono {c : Cal} (hc : CalOK c) {a b n r : Int} (h0 : 0 ≤ a) (hab : a ≤ b) (hb : b ≤ 73048) (hn : 0 ≤ n) (hr : FA c b n = (r, 0)) : ∃ q, FA c a n = (q, 0) ∧ q ≤ r := by
  unfold FA at hr ⊢
  rw [if_pos ⟨hc, by omega, hb, hn⟩] at hr
  rw [if_pos ⟨hc, h0, by omega, hn⟩]
  exact add_mono hc.2.2 (by omega) (by omega) hn hr
theorem FN_FA {c : Cal} (hc : CalOK c) {a : Int} (h0 : 0 ≤ a) (h1 : a ≤ 73048) : FN c a = FA c a 0 := by
  unfold FN FA
  rw [if_pos ⟨hc, h0, h1⟩, if_pos ⟨hc, h0, h1, by omega⟩]
theorem FM_mono {a b k r : Int} (h0 : 0 ≤ a) (hab : a ≤ b) (hb : b ≤ 73048) (hk : 0 ≤ k) (hr : FM b k = (r, 0)) : ∃ q, FM a k = (q, 0) ∧ q ≤ r := by
  obtain ⟨y, m, d, hc⟩ := Dt.civ_exists h0 (show a ≤ 73048 by omega)
  obtain ⟨y', m', d', hc'⟩ := Dt.civ_exists (show 0 ≤ b by omega) hb
  rw [months_eq hc'] at hr
  rw [months_eq hc]
  have hl := Dt.civ_lt_or hc hc' hab
  have hcc := hc
  have hcc' := hc'
  obtain ⟨k1, k2, k3, k4, _⟩ := hcc
  obtain ⟨j1, j2, j3, j4, _⟩ := hcc'
  by_cases h2 : 12 * (y' - 1990) + m' - 1 + k < 2400
  · obtain ⟨r', y2, m2, d2, hr2, he2, g1, _, _, _, g5⟩ := Dt.mon_civ hc' (k := k) (by omega) h2
    obtain ⟨q, y1, m1, d1, hr1, he1, f1, _, _, _, f5⟩ := Dt.mon_civ hc (k := k) (by omega) (by omega)
    rw [he2] at hr
    cases hr
    refine ⟨q, he1, Dt.civ_le_of hr1 hr2 ?_⟩
    obtain ⟨_, _, u3, u4, _⟩ := hr1
    obtain ⟨_, _, v3, v4, _⟩ := hr2
    rcases hl with hl | ⟨hl, hd⟩
    · exact .inl (by omega)
    · refine .inr ⟨by omega, ?_⟩
      obtain rfl : y1 = y2 := by omega
      obtain rfl : m1 = m2 := by omega
      omega
  · unfold Dt.mon at hr
    rw [if_pos (.inr (by omega))] at hr
    cases hr
/-- one list of numbers is not greater than the other one, number by number -/
def LeL : List Int → List Int → Prop
  | [], [] => True
  | x :: xs, y :: ys => x ≤ y ∧ LeL xs ys
  | _, _ => False
theorem LeL.len : ∀ {a b : List Int}, LeL a b → a.length = b.length
  | [], [], _ => rfl
  | [], _ :: _, h => h.elim
  | _ :: _, [], h => h.elim
  | x :: xs, y :: ys, h => by rw [List.length_cons, List.length_cons, LeL.len h.2]
theorem LeL.down : ∀ {a b : List Int}, LeL a b → ∀ y ∈ b, ∃ x ∈ a, x ≤ y
  | [], [], _, y, hy => by cases hy
  | [], _ :: _, h, _, _ => h.elim
  | _ :: _, [], h, _, _ => h.elim
  | x :: xs, z :: ys, h, y, hy => by
    rcases List.mem_cons.1 hy with rfl | hy
    · exact ⟨x, by simp, h.1⟩
    · obtain ⟨u, hu, hl⟩ := LeL.down h.2 y hy
      exact ⟨u, List.mem_cons_of_mem _ hu, hl⟩
theorem LeL.up : ∀ {a b : List Int}, LeL a b → ∀ x ∈ a, ∃ y ∈ b, x ≤ y
  | [], [], _, y, hy => by cases hy
  | [], _ :: _, h, _, _ => h.elim
  | _ :: _, [], h, _, _ => h.elim
  | z :: xs, y :: ys, h, x, hx => by
    rcases List.mem_cons.1 hx with rfl | hx
    · exact ⟨y, by simp, h.1⟩
    · obtain ⟨u, hu, hl⟩ := LeL.up h.2 x hx
      exact ⟨u, List.mem_cons_of_mem _ hu, hl⟩
theorem dayR_some {r : Int × Int} {y : Int} (h : dayR r = some y) : r = (y, 0) ∧ y ≤ 73048 := by
  unfold dayR at h
  split at h
  · cases h
  · split at h
    · cases h
    · cases h
      obtain ⟨a, b⟩ := r
      simp at *
      omega
theorem dayR_of {q : Int} (h : q ≤ 73048) : dayR (q, 0) = some q := by
  unfold dayR
  rw [if_neg (by simp), if_neg (by dsimp only; omega)]
section
variable {c : Cal} {l : List Wh} {t : Dl.T} {ks : List Int}
theorem ruleS_1 (h : t.kd = 1) : ruleS c l t ks = (t.n, 0) := by unfold ruleS; simp [h]
theorem ruleS_2 (h : t.kd = 2) : ruleS c l t ks = ((whAt l t.ev).day, 0) := by unfold ruleS; simp [h]
theorem ruleS_3 (h : t.kd = 3) : ruleS c l t ks = (cutD (whAt l t.ev) t.n, 0) := by unfold ruleS; simp [h]
theorem ruleS_4 (h : t.kd = 4) : ruleS c l t ks = (if t.bz then FA c (ks.getD 0 0) t.n else (ks.getD 0 0 + t.n, 0)) := by unfold ruleS; simp [h]
theorem ruleS_5 (h : t.kd = 5) : ruleS c l t ks = FM (ks.getD 0 0) t.n := by unfold ruleS; simp [h]
theorem ruleS_6 (h : t.kd = 6) : ruleS c l t ks = FN c (ks.getD 0 0) := by unfold ruleS; simp [h]
theorem ruleS_7 (h : t.kd = 7) : ruleS c l t ks = (Lib.minOf ks, 0) := by unfold ruleS; simp [h]
theorem ruleS_8 (h : t.kd = 8) : ruleS c l t ks = (Lib.maxOf ks, 0) := by unfold ruleS; simp [h]
end
theorem one_of_len {l : List Int} (h : l.length = 1) : ∃ x, l = [x] := by
  match l, h with
  | [x], _ => exact ⟨x, rfl⟩
theorem rule_mono {c : Cal} {lo hi : List Wh} {t : Dl.T} {xs ys : List Int} {y : Int} (hc : CalOK c) (ho : ordL lo hi = true) (hok : okN t lo.length = true) (hkn : isEv t = true → knownAt lo t.ev = true)
    (hx : ∀ d ∈ xs, 0 ≤ d ∧ d ≤ 73048) (hy : ∀ d ∈ ys, 0 ≤ d ∧ d ≤ 73048) (hl : LeL xs ys) (hkl : xs.length = t.kids.length) (h : dayR (ruleS c hi t ys.reverse) = some y) : ∃ x, dayR (ruleS c lo t xs.reverse) = some x ∧ x ≤ y := by
  obtain ⟨h, h73⟩ := dayR_some h
  have fin : ∀ q : Int, ruleS c lo t xs.reverse = (q, 0) → q ≤ y → ∃ x, dayR (ruleS c lo t xs.reverse) = some x ∧ x ≤ y := fun q hq hqy => ⟨q, by rw [hq]; exact dayR_of (by omega), hqy⟩
  have one : t.kids.length = 1 → ∃ a b, xs = [a] ∧ ys = [b] ∧ a ≤ b ∧ 0 ≤ a ∧ b ≤ 73048 := fun h1 => by
    obtain ⟨a, rfl⟩ := one_of_len (hkl.trans h1)
    obtain ⟨b, rfl⟩ := one_of_len (hl.len.symm.trans (hkl.trans h1))
    exact ⟨a, b, rfl, rfl, hl.1, (hx a (by simp)).1, (hy b (by simp)).2⟩
  rcases okN_cases hok with ⟨hk, h1, h2⟩ | ⟨hk, h1, h2⟩ | ⟨hk, h1, h2, h3, h4⟩ | ⟨hk, h1, h2, h3⟩ | ⟨hk, h1, h2, h3⟩ | ⟨hk, h3⟩ | ⟨hk, h3, h4⟩ | ⟨hk, h3, h4⟩
  · rw [ruleS_1 hk] at h
    cases h
    exact fin _ (ruleS_1 hk) (Int.le_refl _)
  · rw [ruleS_2 hk] at h
    cases h
    have := ordL_wh ho (hkn (by unfold isEv; rw [hk]; rfl))
    exact fin _ (ruleS_2 hk) (by omega)
  · rw [ruleS_3 hk] at h
    cases h
    have := ordL_wh ho (hkn (by unfold isEv; rw [hk]; rfl))
    refine fin _ (ruleS_3 hk) ?_
    unfold cutD
    split <;> split <;> omega
  · obtain ⟨a, b, rfl, rfl, hab, h0, hb⟩ := one (by omega)
    rw [ruleS_4 hk] at h
    cases hz : t.bz with
    | true =>
      rw [hz, if_pos rfl] at h
      obtain ⟨q, hq, hqy⟩ := FA_mono hc h0 hab hb h1 h
      exact fin q (by rw [ruleS_4 hk, hz, if_pos rfl]; exact hq) hqy
    | false =>
      rw [hz, if_neg (by simp)] at h
      cases h
      exact fin (a + t.n) (by rw [ruleS_4 hk, hz, if_neg (by simp)]; rfl) (by simp; omega)
  · obtain ⟨a, b, rfl, rfl, hab, h0, hb⟩ := one (by omega)
    rw [ruleS_5 hk] at h
    obtain ⟨q, hq, hqy⟩ := FM_mono h0 hab hb h1 h
    exact fin q (by rw [ruleS_5 hk]; exact hq) hqy
  · obtain ⟨a, b, rfl, rfl, hab, h0, hb⟩ := one (by omega)
    rw [ruleS_6 hk] at h
    have h : FN c b = (y, 0) := h
    rw [FN_FA hc (by omega) hb] at h
    obtain ⟨q, hq, hqy⟩ := FA_mono hc h0 hab hb (Int.le_refl 0) h
    refine fin q ?_ hqy
    rw [ruleS_6 hk]
    show FN c a = (q, 0)
    rw [FN_FA hc h0 (by omega)]
    exact hq
  · rw [ruleS_7 hk] at h
    cases h
    refine fin _ (ruleS_7 hk) ?_
    have hxl : 1 ≤ xs.length := by omega
    have hyl : 1 ≤ ys.length := by have := hl.len; omega
    obtain ⟨u, hu, hle⟩ := hl.down _ (List.mem_reverse.1 (min_spec (l := ys.reverse) (fun e => by have := congrArg List.length e; simp at this; subst this; simp at hyl)).1)
    have := (min_spec (l := xs.reverse) (fun e => by have := congrArg List.length e; simp at this; subst this; simp at hxl)).2 u (List.mem_reverse.2 hu)
    omega
  · rw [ruleS_8 hk] at h
    cases h
    refine fin _ (ruleS_8 hk) ?_
    have hxl : 1 ≤ xs.length := by omega
    have hyl : 1 ≤ ys.length := by have := hl.len; omega
    obtain ⟨u, hu, hle⟩ := hl.up _ (List.mem_reverse.1 (max_spec (l := xs.reverse) (fun e => by have := congrArg List.length e; simp at this; subst this; simp at hxl)).1)
    have := (max_spec (l := ys.reverse) (fun e => by have := congrArg List.length e; simp at this; subst this; simp at hyl)).2 u (List.mem_reverse.2 hu)
    omega
theorem good_ord {lo hi : List Wh} (ho : ordL lo hi = true) {t : Dl.T} (h : GoodN lo t) : GoodN hi t := ⟨by rw [← ordL_len ho]; exact h.1, fun hi' => by rw [← ordL_known ho]; exact h.2 hi'⟩
def MonT (c : Cal) (lo hi : List Wh) (t : Dl.T) : Prop := ∀ d, (∀ x ∈ Dl.nds t d, GoodN lo x.1) → ∀ y, dayT c hi t = some y → ∃ x, dayT c lo t = some x ∧ x ≤ y
theorem mon_list {c : Cal} {lo hi : List Wh} : ∀ (ks : List Dl.T), (∀ k ∈ ks, MonT c lo hi k) → ∀ d, (∀ x ∈ Dl.ndsL ks d, GoodN lo x.1) → ∀ ys, dayL c hi ks = some ys → ∃ xs, dayL c lo ks = some xs ∧ LeL xs ys
  | [], _, _, _, ys, h => by
    rw [dayL] at h
    cases h
    exact ⟨[], by rw [dayL], trivial⟩
  | k :: ks, hk, d, hg, ys, h => by
    rw [Dl.ndsL] at hg
    rw [dayL_cons] at h
    cases h1 : dayT c hi k with
    | none => rw [h1] at h; cases h
    | some y =>
      cases h2 : dayL c hi ks with
      | none => rw [h1, h2] at h; cases h
      | some zs =>
        rw [h1, h2] at h
        cases h
        obtain ⟨x, e1, l1⟩ := hk k (by simp) d (fun x hx => hg x (List.mem_append_left _ hx)) y h1
        obtain ⟨xs, e2, l2⟩ := mon_list ks (fun k' h' => hk k' (by simp [h'])) d (fun x hx => hg x (List.mem_append_right _ hx)) zs h2
        exact ⟨x :: xs, by rw [dayL_cons, e1, e2], l1, l2⟩
theorem mon_day {c : Cal} {lo hi : List Wh} (hc : CalOK c) (hgl : goodE lo = true) (hgh : goodE hi = true) (ho : ordL lo hi = true) : ∀ t, MonT c lo hi t := by
  refine Dl.T.ind (P := MonT c lo hi) (fun t ih => ?_)
  intro d hn y hy
  have hnt := hn (t, d) (by rw [Dl.nds_eq]; simp)
  have hnl : ∀ x ∈ Dl.ndsL t.kids (d + 1), GoodN lo x.1 := fun x hx => hn x (by rw [Dl.nds_eq]; exact List.mem_cons_of_mem _ hx)
  rw [dayT_eq] at hy ⊢
  cases hs : dayL c hi t.kids with
  | none => rw [hs] at hy; cases hy
  | some ys =>
    rw [hs] at hy
    obtain ⟨xs, e, hle⟩ := mon_list t.kids ih (d + 1) hnl ys hs
    rw [e]
    exact rule_mono hc ho hnt.1 hnt.2
      ((run_list t.kids (fun k _ => run_day hc hgl k) (d + 1) hnl).1 xs e)
      ((run_list t.kids (fun k _ => run_day hc hgh k) (d + 1) (fun x hx => good_ord ho (hnl x hx))).1 ys hs) hle (dayL_len e) hy
theorem good_all {t : Dl.T} {l : List Wh} (hv : validT t l.length = true) (hk : ¬ ((evT t).any fun i => !(knownAt l i)) = true) : ∀ x ∈ Dl.nds t 1, GoodN l x.1 := by
  obtain ⟨_, _, _, hok⟩ := valid_facts hv
  exact fun x hx => ⟨hok x hx, fun hi => by
    have := List.any_eq_false.1 (Bool.not_eq_true _ ▸ hk) _ (mem_evT hx hi)
    simpa using this⟩
/-- what Eval answers for two lists in order -/
theorem eval_mono (t : Dl.T) (c : Cal) {lo hi : List Wh} (ho : ordL lo hi = true) :
    evalS t c lo = (0, false, 1) ∨ evalS t c hi = (0, false, 1) ∨ (evalS t c lo = (0, false, 0) ∧ evalS t c hi = (0, false, 0)) ∨
    (∃ a b, evalS t c lo = (a, true, 0) ∧ evalS t c hi = (b, true, 0) ∧ a ≤ b) ∨ (evalS t c hi = (0, false, 2) ∧ ((∃ a, evalS t c lo = (a, true, 0)) ∨ evalS t c lo = (0, false, 2))) := by
  rw [evalS_eq t c lo, evalS_eq t c hi]
  by_cases h1 : CalOK c ∧ validT t lo.length = true ∧ goodE lo = true
  · by_cases h2 : CalOK c ∧ validT t hi.length = true ∧ goodE hi = true
    · rw [if_pos h1, if_pos h2]
      have hk : ((evT t).any fun i => !(knownAt lo i)) = ((evT t).any fun i => !(knownAt hi i)) := by
        congr 1
        funext i
        rw [ordL_known ho]
      rw [← hk]
      by_cases h3 : ((evT t).any fun i => !(knownAt lo i)) = true
      · rw [if_pos h3, if_pos h3]
        exact .inr (.inr (.inl ⟨rfl, rfl⟩))
      · rw [if_neg h3, if_neg h3]
        have hn := good_all h1.2.1 h3
        cases hd : dayT c hi t with
        | none =>
          refine .inr (.inr (.inr (.inr ⟨rfl, ?_⟩)))
          cases dayT c lo t with
          | none => exact .inr rfl
          | some a => exact .inl ⟨a, rfl⟩
        | some b =>
          obtain ⟨a, ha, hab⟩ := mon_day h1.1 h1.2.2 h2.2.2 ho t 1 hn b hd
          rw [ha]
          exact .inr (.inr (.inr (.inl ⟨a, b, rfl, rfl, hab⟩)))
    · rw [if_neg h2]
      exact .inr (.inl rfl)
  · rw [if_neg h1]
    exact .inl rfl
/-- the forms of what Eval answers -/
theorem eval_forms (t : Dl.T) (c : Cal) (l : List Wh) : evalS t c l = (0, false, 1) ∨ evalS t c l = (0, false, 2) ∨ (evalS t c l).2.2 = 0 := by
  rw [evalS_eq]
  split
  · split
    · exact .inr (.inr rfl)
    · cases dayT c l t with
      | none => exact .inr (.inl rfl)
      | some d => exact .inr (.inr rfl)
  · exact .inl rfl
theorem eval_zero {t : Dl.T} {c : Cal} {l : List Wh} (h : (evalS t c l).2.2 = 0) : evalS t c l = (0, false, 0) ∨ ∃ d, evalS t c l = (d, true, 0) := by
  rw [evalS_eq] at h ⊢
  split at h
  · rename_i h1
    rw [if_pos h1]
    split at h
    · rename_i h2
      rw [if_pos h2]
      exact .inl rfl
    · rename_i h2
      rw [if_neg h2]
      cases hd : dayT c l t with
      | none => rw [hd] at h; cases h
      | some d => exact .inr ⟨d, rfl⟩
  · cases h
end Go.Proofs.YtlbfnafniobnaaaDoor

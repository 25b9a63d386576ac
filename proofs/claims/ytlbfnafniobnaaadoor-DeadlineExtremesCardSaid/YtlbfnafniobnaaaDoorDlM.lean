/- The rule of a node's kind, whatever it is. -/
import Derived.Test.YtlbfnafniobnaaaDoorDlL
namespace Go.Proofs.YtlbfnafniobnaaaDoor
open Go.RowKit Go.Shelf

theorem okN_cases {t : Dl.T} {ev : Int} (h : okN t ev = true) :
    (t.kd = 1 ∧ 0 ≤ t.n ∧ t.n ≤ 73048) ∨ (t.kd = 2 ∧ 0 ≤ t.ev ∧ t.ev < ev) ∨ (t.kd = 3 ∧ 0 ≤ t.n ∧ t.n ≤ 1440 ∧ 0 ≤ t.ev ∧ t.ev < ev) ∨ (t.kd = 4 ∧ 0 ≤ t.n ∧ t.n ≤ 1000 ∧ t.kids.length = 1) ∨
    (t.kd = 5 ∧ 0 ≤ t.n ∧ t.n ≤ 120 ∧ t.kids.length = 1) ∨ (t.kd = 6 ∧ t.kids.length = 1) ∨ (t.kd = 7 ∧ 1 ≤ t.kids.length ∧ t.kids.length ≤ 40) ∨ (t.kd = 8 ∧ 1 ≤ t.kids.length ∧ t.kids.length ≤ 40) := by
  unfold okN shp shapeT at h
  simp only [List.lookup] at h
  by_cases h1 : t.kd = 1
  · rw [h1] at h
    simp [fitB] at h
    omega
  have g1 : (t.kd == 1) = false := beq_eq_false_iff_ne.2 h1
  rw [g1] at h
  simp only at h
  by_cases h2 : t.kd = 2
  · rw [h2] at h
    simp [fitB] at h
    omega
  have g2 : (t.kd == 2) = false := beq_eq_false_iff_ne.2 h2
  rw [g2] at h
  simp only at h
  by_cases h3 : t.kd = 3
  · rw [h3] at h
    simp [fitB] at h
    omega
  have g3 : (t.kd == 3) = false := beq_eq_false_iff_ne.2 h3
  rw [g3] at h
  simp only at h
  by_cases h4 : t.kd = 4
  · rw [h4] at h
    simp [fitB] at h
    omega
  have g4 : (t.kd == 4) = false := beq_eq_false_iff_ne.2 h4
  rw [g4] at h
  simp only at h
  by_cases h5 : t.kd = 5
  · rw [h5] at h
    simp [fitB] at h
    omega
  have g5 : (t.kd == 5) = false := beq_eq_false_iff_ne.2 h5
  rw [g5] at h
  simp only at h
  by_cases h6 : t.kd = 6
  · rw [h6] at h
    simp [fitB] at h
    omega
  have g6 : (t.kd == 6) = false := beq_eq_false_iff_ne.2 h6
  rw [g6] at h
  simp only at h
  by_cases h7 : t.kd = 7
  · rw [h7] at h
    simp [fitB] at h
    omega
  have g7 : (t.kd == 7) = false := beq_eq_false_iff_ne.2 h7
  rw [g7] at h
  simp only at h
  by_cases h8 : t.kd = 8
  · rw [h8] at h
    simp [fitB] at h
    omega
  have g8 : (t.kd == 8) = false := beq_eq_false_iff_ne.2 h8
  rw [g8] at h
  simp only at h
  simp at h
theorem ev_get {l : List Wh} {i : Int} (h0 : 0 ≤ i) (h1 : i < l.length) : ∃ j : Nat, i = j ∧ l[j]? = some (whAt l i) := by
  obtain ⟨j, rfl⟩ : ∃ j : Nat, i = j := ⟨i.toNat, by omega⟩
  have hj : j < l.length := by omega
  refine ⟨j, rfl, ?_⟩
  unfold whAt
  rw [Int.toNat_natCast, List.getElem?_eq_getElem hj]
  rfl
theorem good_day {l : List Wh} (hg : goodE l = true) {e : Wh} (he : e ∈ l) (hk : e.known = true) : 0 ≤ e.day ∧ e.day ≤ 73048 := by
  unfold goodE at hg
  simp only [Bool.not_eq_true'] at hg
  have h := List.any_eq_false.1 hg e he
  unfold badW at h
  rw [hk, Bool.true_and] at h
  simp only [Bool.or_eq_true, not_or, Bool.not_eq_true, Bool.not_eq_false', Bool.and_eq_true, decide_eq_true_eq] at h
  exact h.1
/-- what the rules lean on -/
structure RCtx (w : World) (c : Cal) (q : Option Addr) (l : List Wh) (capq cb eb : Nat) : Prop where
  cal : CalIn w c
  env : Env w
  evs : EvAt w q l
  cbx : w.heap[cb]? = some (.cells #[.bool c.b0, .bool c.b1, .bool c.b2, .bool c.b3, .bool c.b4, .bool c.b5, .bool c.b6, .slice c.p c.hs.length c.cap] 28 (0, 0))
  ebx : w.heap[eb]? = some (.cells #[.slice q l.length capq] 29 (0, 0))
theorem RCtx.below {w w' : World} {c : Cal} {q : Option Addr} {l : List Wh} {capq cb eb : Nat} (h : RCtx w c q l capq cb eb) (hb : Below w.heap.size w w') : RCtx w' c q l capq cb eb :=
  ⟨h.cal.below hb, h.env.below hb, h.evs.below hb, (hb.block _ (Array.getElem?_eq_some_iff.1 h.cbx).1).trans h.cbx, (hb.block _ (Array.getElem?_eq_some_iff.1 h.ebx).1).trans h.ebx⟩
theorem rule_any (c : Cal) (q : Option Addr) (l : List Wh) (capq cb eb : Nat) (x : Dl.T × Nat) (ks : List Int) (kv : Value) (W0 : World) (hC : RCtx W0 c q l capq cb eb) (hok : okN x.1 l.length = true) (hkn : isEv x.1 = true → knownAt l x.1.ev = true) (hg : goodE l = true)
    (hks : ∀ d ∈ ks, 0 ≤ d ∧ d ≤ 73048) (hkl : ks.length = x.1.kids.length) (hkv : ks = [] ∨ ∃ g off cap, kv = .slice (some ⟨g, off, none⟩) ks.length cap ∧ IntsAt W0 g off ks) :
    ∃ F lb, (ruleL cb eb).lookup x.1.kd = some (.func (.func F) #[] lb) ∧ (∀ args w, (callFunc F args).run Tryd.prog w = .ok (.enter F args) w) ∧
      ∀ w, Below W0.heap.size W0 w → Calls Tryd.prog F (#[.agg #[.int .i64 x.1.kd, .int .i64 x.1.n, .int .i64 x.1.ev, .bool x.1.bz, .slice x.1.p x.1.kids.length x.1.cap, .int .i64 (x.2 : Nat)], kv] ++ lb) w fun e w' => e = .returned (IV (ruleS c l x.1 ks)) ∧ Below w.heap.size w w' := by
  have hd0 : 1 ≤ ks.length → 0 ≤ ks.getD 0 0 ∧ ks.getD 0 0 ≤ 73048 := fun h => by
    refine hks _ ?_
    rw [List.getD_eq_getElem?_getD, List.getElem?_eq_getElem (by omega)]
    simp
  have hne : 1 ≤ ks.length → ∃ g off cap, kv = .slice (some ⟨g, off, none⟩) ks.length cap ∧ IntsAt W0 g off ks := fun h => hkv.resolve_left (fun e => by rw [e] at h; simp at h)
  rcases okN_cases hok with ⟨hk, h1, h2⟩ | ⟨hk, h1, h2⟩ | ⟨hk, h1, h2, h3, h4⟩ | ⟨hk, h1, h2, h3⟩ | ⟨hk, h1, h2, h3⟩ | ⟨hk, h3⟩ | ⟨hk, h3, h4⟩ | ⟨hk, h3, h4⟩
  · refine ⟨40, #[], by rw [hk]; rfl, enters_of Tryd.func40 (by kernel_rfl) rfl, fun w hw => ?_⟩
    rw [show ruleS c l x.1 ks = (x.1.n, 0) by unfold ruleS; rw [if_pos hk]]
    exact rule1 x kv w
  · obtain ⟨j, hj, he⟩ := ev_get h1 h2
    refine ⟨41, #[.pointer (some ⟨eb, 0, none⟩)], by rw [hk]; rfl, enters_of Tryd.func41 (by kernel_rfl) rfl, fun w hw => ?_⟩
    rw [show ruleS c l x.1 ks = ((whAt l x.1.ev).day, 0) by unfold ruleS; rw [if_neg (by omega), if_pos hk]]
    have hc := hC.below hw
    exact rule2 x kv q capq eb l _ j w hc.evs hj he hc.ebx
  · obtain ⟨j, hj, he⟩ := ev_get h3 h4
    have hkn' : (whAt l x.1.ev).known = true := by
      rw [← known_wh]
      exact hkn (by unfold isEv; rw [hk]; rfl)
    have hb := good_day hg (List.mem_of_getElem? he) hkn'
    refine ⟨42, #[.pointer (some ⟨eb, 0, none⟩)], by rw [hk]; rfl, enters_of Tryd.func42 (by kernel_rfl) rfl, fun w hw => ?_⟩
    rw [show ruleS c l x.1 ks = (cutD (whAt l x.1.ev) x.1.n, 0) by unfold ruleS; rw [if_neg (by omega), if_neg (by omega), if_pos hk]]
    have hc := hC.below hw
    exact rule3 x kv q capq eb l _ j w hc.evs hj he hc.ebx hb.1 hb.2
  · obtain ⟨g, off, cap, rfl, hi⟩ := hne (by omega)
    have hb := hd0 (by omega)
    refine ⟨43, #[.pointer (some ⟨cb, 0, none⟩)], by rw [hk]; rfl, enters_of Tryd.func43 (by kernel_rfl) rfl, fun w hw => ?_⟩
    have hc := hC.below hw
    have hr : ruleS c l x.1 ks = (if x.1.bz then FA c (ks.getD 0 0) x.1.n else (ks.getD 0 0 + x.1.n, 0)) := by unfold ruleS; rw [if_neg (by omega), if_neg (by omega), if_neg (by omega), if_pos hk]
    rw [hr]
    cases hz : x.1.bz with
    | true =>
      rw [if_pos rfl]
      have := rule4b x g off ks.length cap cb ks _ c w rfl (by omega) (hi.below hw) rfl hc.cal hc.cbx hz
      rwa [hz] at this
    | false =>
      rw [if_neg (by simp)]
      have := rule4p x g off ks.length cap cb ks _ w rfl (by omega) (hi.below hw) rfl hz hb.1 hb.2 h1 h2
      rwa [hz] at this
  · obtain ⟨g, off, cap, rfl, hi⟩ := hne (by omega)
    refine ⟨45, #[], by rw [hk]; rfl, enters_of Tryd.func45 (by kernel_rfl) rfl, fun w hw => ?_⟩
    rw [show ruleS c l x.1 ks = FM (ks.getD 0 0) x.1.n by unfold ruleS; rw [if_neg (by omega), if_neg (by omega), if_neg (by omega), if_neg (by omega), if_pos hk]]
    exact rule5 x g off ks.length cap ks _ w rfl (by omega) (hi.below hw) rfl (hC.below hw).env h1 h2
  · obtain ⟨g, off, cap, rfl, hi⟩ := hne (by omega)
    refine ⟨47, #[.pointer (some ⟨cb, 0, none⟩)], by rw [hk]; rfl, enters_of Tryd.func47 (by kernel_rfl) rfl, fun w hw => ?_⟩
    have hc := hC.below hw
    rw [show ruleS c l x.1 ks = FN c (ks.getD 0 0) by unfold ruleS; rw [if_neg (by omega), if_neg (by omega), if_neg (by omega), if_neg (by omega), if_neg (by omega), if_pos hk]]
    exact rule6 x g off ks.length cap cb ks _ c w rfl (by omega) (hi.below hw) rfl hc.cal hc.cbx
  · obtain ⟨g, off, cap, rfl, hi⟩ := hne (by omega)
    refine ⟨49, #[], by rw [hk]; rfl, enters_of Tryd.func49 (by kernel_rfl) rfl, fun w hw => ?_⟩
    rw [show ruleS c l x.1 ks = (Lib.minOf ks, 0) by unfold ruleS; rw [if_neg (by omega), if_neg (by omega), if_neg (by omega), if_neg (by omega), if_neg (by omega), if_neg (by omega), if_pos hk]]
    exact rule7 x g off ks.length cap ks w rfl (by omega) (by omega) (hi.below hw)
  · obtain ⟨g, off, cap, rfl, hi⟩ := hne (by omega)
    refine ⟨51, #[], by rw [hk]; rfl, enters_of Tryd.func51 (by kernel_rfl) rfl, fun w hw => ?_⟩
    rw [show ruleS c l x.1 ks = (Lib.maxOf ks, 0) by unfold ruleS; rw [if_neg (by omega), if_neg (by omega), if_neg (by omega), if_neg (by omega), if_neg (by omega), if_neg (by omega), if_neg (by omega)]]
    exact rule8 x g off ks.length cap ks w rfl (by omega) (by omega) (hi.below hw)
end Go.Proofs.YtlbfnafniobnaaaDoor

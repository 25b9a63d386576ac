/- Collect: all nodes of a term in a slice. -/
import Derived.Test.YtlbfnafniobnaaaDoorDlF
namespace Go.Proofs.YtlbfnafniobnaaaDoor
open Go.RowKit Go.Shelf
attribute [local go_sem] Oper.semAt_some

def nodeC (x : Dl.T × Nat) : List Value := [.int .i64 x.1.kd, .int .i64 x.1.n, .int .i64 x.1.ev, .bool x.1.bz, .slice x.1.p x.1.kids.length x.1.cap, .int .i64 (x.2 : Nat)]
def cellsN : List (Dl.T × Nat) → List Value
  | [] => []
  | x :: l => nodeC x ++ cellsN l
theorem cellsN_app : ∀ (a b : List (Dl.T × Nat)), cellsN (a ++ b) = cellsN a ++ cellsN b
  | [], _ => rfl
  | x :: a, b => by rw [List.cons_append, cellsN, cellsN, cellsN_app a b, List.append_assoc]
theorem nodeC_len (x : Dl.T × Nat) : (nodeC x).length = 6 := rfl
theorem cellsN_get : ∀ (l : List (Dl.T × Nat)) (i : Nat) (x : Dl.T × Nat) (j : Nat), l[i]? = some x → j < 6 → (cellsN l)[i * 6 + j]? = (nodeC x)[j]?
  | [], i, x, j, h, _ => by simp at h
  | y :: l, 0, x, j, h, hj => by
    obtain rfl : y = x := by simpa using h
    rw [cellsN, Nat.zero_mul, Nat.zero_add, List.getElem?_append_left (by rw [nodeC_len]; exact hj)]
  | y :: l, i + 1, x, j, h, hj => by
    rw [cellsN, List.getElem?_append_right (by rw [nodeC_len]; omega), nodeC_len, show (i + 1) * 6 + j - 6 = i * 6 + j by omega]
    exact cellsN_get l i x j (by simpa using h) hj
/-- nodes in memory -/
def NodesAt (w : World) (g off : Nat) (l : List (Dl.T × Nat)) : Prop := ∀ i x j, l[i]? = some x → j < 6 → w.cell? ⟨g, off + i * 6 + j, none⟩ = (nodeC x)[j]?
theorem nodes_own {w : World} {base : Nat} {v : Value} {l : List (Dl.T × Nat)} (h : w.ownsRow base 64 6 v l.length (cellsN l)) (hl : l ≠ []) : ∃ g cap, v = .slice (some ⟨g, 0, none⟩) l.length cap ∧ base ≤ g ∧ g < w.heap.size ∧ NodesAt w g 0 l := by
  rcases h.2 with ⟨_, h0⟩ | ⟨g, cap, cur, hv, hb, hg, _, _, _, ht⟩
  · exact absurd (List.length_eq_zero_iff.1 h0) hl
  · refine ⟨g, cap, hv, hb, (Array.getElem?_eq_some_iff.1 hg).1, fun i x j hi hj => ?_⟩
    have e := cellsN_get l i x j hi hj
    have hil := (List.getElem?_eq_some_iff.1 hi).1
    rw [← ht, List.getElem?_take, if_pos (by omega)] at e
    simp only [World.cell?, hg, Nat.zero_add]
    simpa using e
theorem cells_new (w : World) (cs : List Value) (t : TypeId) : ∀ j u, cs[j]? = some u → (w.alloc (.cells cs.toArray t)).cell? ((⟨w.heap.size, 0, none⟩ : Addr).add j) = some u := by
  intro j u hj
  have e := World.alloc_heap_new w (.cells cs.toArray t)
  rw [Go.WideShapes.add_plain, Nat.zero_add]
  simp only [World.cell?, e]
  simpa using hj
theorem info_node : (Tryd.prog.info? 64).map (fun i => (i.zero, i.size, i.bytes)) = some (some (.agg #[.int .i64 0, .int .i64 0, .int .i64 0, .bool false, .slice none 0 0, .int .i64 0]), 6, 64) := by kernel_rfl
set_option maxRecDepth 100000 in
set_option maxHeartbeats 2000000 in
theorem append_calls (n₀ c : Nat) (t : Dl.T) (w : World) (hc : w.heap[c]? = some (.cells (TCells t) 24 (0, 0))) (ht : TIn n₀ w t) (hn : n₀ ≤ c) (hnl : (Dl.nds t 1).length ≤ 40) :
    Calls Tryd.prog 54 #[.slice none 0 0, .func (.func 55) #[] #[.pointer (some ⟨c, 0, none⟩)]] w fun e w' => ∃ g cap, e = .returned (.slice (some ⟨g, 0, none⟩) (Dl.nds t 1).length cap) ∧ w.heap.size ≤ g ∧ g < w'.heap.size ∧ NodesAt w' g 0 (Dl.nds t 1) ∧ Below w.heap.size w w' := by
  obtain ⟨i0, hi, hz0, hz1, hz2⟩ := info_parts info_node
  have HI := Lib.hid (And.intro hi (And.intro hz0 (And.intro hz1 hz2)))
  clear hi hz0 hz1 hz2
  have HT := Lib.hid ht
  have HC := Lib.hid hc
  have hcl := (Array.getElem?_eq_some_iff.1 hc).1
  clear ht hc
  refine (callsIn_wide (n := 3)).1 ?_
  refine callsIn_of_wp_marks Tryd.func54 rfl trivial ?_ rfl
  simp only [Tryd.ntmps54, List.size_toArray, List.length_cons, List.length_nil, Nat.reduceAdd, Nat.reduceSub, Array.replicate_succ, Array.replicate_zero, List.push_toArray, List.append_toArray, List.nil_append, List.cons_append]
  gi_wp2
  obtain ⟨V, hV⟩ : ∃ V, V = (w.alloc (.cells #[.slice none 0 0] 62)) := ⟨_, rfl⟩
  have zV : V.heap.size = w.heap.size + 1 := by rw [hV]; simp
  have bV : Below w.heap.size w V := by rw [hV]; exact (by repeat (first | exact Below.refl _ _ | assumption | refine below_drewN ?_ _ | refine Below.setCell ?_ (by first | (simp; done) | (simp; omega)) _ | refine Below.alloc ?_ (by first | (simp; done) | (simp; omega) | omega) _ | refine Below.drew ?_ | refine Below.trans ?_ (Below.mono (by assumption) (by first | (simp; done) | (simp; omega) | omega))))
  have v2 : Boxed V w.heap.size 62 (.slice none 0 0) := by show V.heap[_]? = _; rw [hV]; repeat (first | exact heap_new (by simp) | refine (Below.heap_alloc _ _ _ (by first | (simp; done) | (simp; omega))).trans ?_)
  have v3 : V.heap[c]? = some (.cells (TCells t) 24 (0, 0)) := (bV.block _ hcl).trans HC.out
  have htV : TIn n₀ V t := TIn.below (bV.mono (by omega)) t HT.out
  have HBV := Lib.hid bV
  rw [← hV]
  clear hV bV
  refine wpIn_range_own (F := Fence.wide) rfl (by omega) (gf := 55) (lb := #[.pointer (some ⟨c, 0, none⟩)]) rfl trivial (enters_of Tryd.func55 (by kernel_rfl) rfl)
    (enc := fun x => #[NV x]) (xs := Dl.nds t 1) (Fx := fun j => j < n₀ ∨ j = c)
    (nodes_in _ n₀ c t V v3 hn htV)
    (fun _ => rfl)
    (fun pre O W => ∃ v, O = (fun j => j = w.heap.size ∨ v.ownBlock = some j) ∧ Boxed W w.heap.size 62 v ∧ W.ownsRow (V.heap.size + 2) 64 6 v pre.length (cellsN pre) ∧ pre.length ≤ 40 ∧ Same (fun j => j < V.heap.size ∧ j ≠ w.heap.size) V W)
    (fun _ => False)
    (fun j => j = w.heap.size ∨ (Value.slice none 0 0).ownBlock = some j)
    (fun pre O W h j hj => by
      obtain ⟨v, rfl, _, hr, _, hs⟩ := h
      have := hs.size
      rcases hj with rfl | hj
      · omega
      · have := own_block hr hj
        omega)
    (fun pre O W h => by obtain ⟨_, _, _, _, h, _⟩ := h; omega)
    (fun pre O W W' h hs hz => by
      obtain ⟨v, hO, hv, hr, hl, hS⟩ := h
      exact ⟨v, hO, boxed_same hv hs (by omega), own_same hr hs (fun g hg _ _ => by omega), hl, hS.trans (hs.mono (fun j _ hj => by omega))⟩)
    (fun _ _ h _ _ => h)
    (fun j hj h => by
      rcases hj with rfl | hj
      · omega
      · simp [Value.ownBlock] at hj)
    (fun a b => ⟨_, rfl, (v2.alloc _).alloc _, World.ownsRow_nil _ _ _ _, by simp, ((Same.refl _ _).alloc _).alloc _⟩)
    (fun x => some (.cells #[.int .i64 x.1.kd, .int .i64 x.1.n, .int .i64 x.1.ev, .bool x.1.bz, .slice x.1.p x.1.kids.length x.1.cap, .int .i64 (x.2 : Nat)] 64))
    (fun s x => { tmps := #[.slice none 0 0, .func (.func 55) #[] #[.pointer (some ⟨c, 0, none⟩)], .pointer (some ⟨w.heap.size, 0, none⟩), undef, .slice none 0 0, .pointer (some ⟨s, 0, none⟩), .func (.func 55) #[] #[.pointer (some ⟨c, 0, none⟩)], NV x, undef, undef, undef, undef, undef], defers := [] }) ?assign ?body ?done ?stop
  case assign =>
    intro l x W K hK
    simp only [NV, allocO] at hK ⊢
    gi_wp2
    exact hK
  case body =>
    rintro l pre x O W0 W1 W2 hx ⟨v, rfl, hv0, hr0, hpl, hsV⟩ hsz s01 s12 z2
    have hpl1 : (pre ++ [x]).length ≤ 40 := Nat.le_trans hx.length_le hnl
    simp only [allocO] at s12 z2
    have h01 := s01.size
    have z2' : W2.heap.size = W1.heap.size + 1 := by rw [z2]; simp
    have sV : Same (fun j => j < V.heap.size ∧ j ≠ w.heap.size) V W2 :=
      ((hsV.trans ((Same.of_below s01).mono (fun _ _ _ => trivial))).alloc _).trans (s12.mono (fun j _ hj => by omega))
    have s02 : Same (fun j => j ≠ V.heap.size + 1) W0 W2 := ((((Same.of_below s01).mono (fun _ _ _ => trivial)).alloc _)).trans s12
    have hob : ∀ g, v.ownBlock = some g → V.heap.size + 2 ≤ g ∧ g < W0.heap.size := fun g hg => own_block hr0 hg
    have hv := boxed_same hv0 s02 (by omega)
    have hrow := own_same hr0 s02 (fun g hg _ _ => by omega)
    have cx : W2.heap[W1.heap.size]? = some (.cells #[.int .i64 x.1.kd, .int .i64 x.1.n, .int .i64 x.1.ev, .bool x.1.bz, .slice x.1.p x.1.kids.length x.1.cap, .int .i64 (x.2 : Nat)] 64 (0, 0)) := s12.heap (World.alloc_heap_new W1 _) (by omega)
    have x0 : W2.cell? ⟨W1.heap.size, 0, none⟩ = some (.int .i64 x.1.kd) := by simp [World.cell?, cx]
    have x1 : W2.cell? ⟨W1.heap.size, 1, none⟩ = some (.int .i64 x.1.n) := by simp [World.cell?, cx]
    have x2 : W2.cell? ⟨W1.heap.size, 2, none⟩ = some (.int .i64 x.1.ev) := by simp [World.cell?, cx]
    have x3 : W2.cell? ⟨W1.heap.size, 3, none⟩ = some (.bool x.1.bz) := by simp [World.cell?, cx]
    have x4 : W2.cell? ⟨W1.heap.size, 4, none⟩ = some (.slice x.1.p x.1.kids.length x.1.cap) := by simp [World.cell?, cx]
    have x5 : W2.cell? ⟨W1.heap.size, 5, none⟩ = some (.int .i64 (x.2 : Nat)) := by simp [World.cell?, cx]
    have hes : cellsN (pre ++ [x]) = cellsN pre ++ nodeC x := by rw [cellsN_app, cellsN, cellsN, List.append_nil]
    have HV := Lib.hid hv
    have HR := Lib.hid hrow
    have HO := Lib.hid hob
    have HSV := Lib.hid sV
    have HPL := Lib.hid hpl1
    have HS := Lib.hid hes
    have hvc := hv.cell
    have hB2 : V.heap.size + 2 ≤ W2.heap.size := by omega
    have hB3 : W1.heap.size ≤ W2.heap.size := by omega
    have hB4 : W0.heap.size ≤ W1.heap.size := h01
    clear hsV hv0 hr0 s01 s12 s02 z2 z2' cx hv hrow sV hob hpl1 hx hes
    obtain ⟨hi, hz0, hz1, hz2⟩ := HI.out
    have HII := Lib.hid hi
    clear hi
    gi_wp2_with (gi_at_builtin; refine wpListIn_append_own_at _ rfl _ _ 62 rfl (V.heap.size + 2) 64 i0 (.agg #[.int .i64 0, .int .i64 0, .int .i64 0, .bool false, .slice none 0 0, .int .i64 0]) 6 64 Tryd.underlying62 HII.out hz0 hz1 hz2 rfl (by decide) _ _ _ rfl (HR.out.alloc _) ⟨W2.heap.size, 0, none⟩ 1 1 [.int .i64 x.1.kd, .int .i64 x.1.n, .int .i64 x.1.ev, .bool x.1.bz, .slice x.1.p x.1.kids.length x.1.cap, .int .i64 (x.2 : Nat)] rfl rfl (cells_new _ [.int .i64 x.1.kd, .int .i64 x.1.n, .int .i64 x.1.ev, .bool x.1.bz, .slice x.1.p x.1.kids.length x.1.cap, .int .i64 (x.2 : Nat)] _) (by simp [Value.oneCell']) (by simp [maxLen]; omega) (by omega) (by rw [World.size_alloc]; omega) ?_; intro v' w1 hown' hgrow _ hat; obtain ⟨g', cap', rfl⟩ := ownsRow_succ hown'; have hv1 := (HV.out.alloc (.cells #[.int .i64 x.1.kd, .int .i64 x.1.n, .int .i64 x.1.ev, .bool x.1.bz, .slice x.1.p x.1.kids.length x.1.cap, .int .i64 (x.2 : Nat)] 64)).kept hgrow (HV.out.not_row (by decide) HR.out); have hc1 := hv1.cell; have hf1 := hv1.frozen)
    have s3 : Same (fun j => ¬ (j = w.heap.size ∨ v.ownBlock = some j)) W2 (w1.setCell ⟨w.heap.size, 0, none⟩ (.slice (some ⟨g', 0, none⟩) (pre.length + 1) cap')) :=
      (((Same.refl _ W2).alloc _).grown hgrow (fun r hr hk => hk (.inr hr))).setCell _ (fun hk => hk (.inl rfl))
    have hr2 := hown'.kept (grownBy_setCell' w1 w.heap.size (.slice (some ⟨g', 0, none⟩) (pre.length + 1) cap')) (.inr (hv1.not_row (by decide) hown').symm)
    refine ⟨_, ⟨_, rfl, hv1.set _, ?_, HPL.out, HSV.out.trans (s3.mono (fun j _ hj h => ?_))⟩, s3, fun j hj => ?_⟩
    · rw [HS.out, List.length_append]
      exact hr2
    · rcases h with h | h
      · exact hj.2 h
      · have := (HO.out j h).1
        omega
    · rcases hj with h | h
      · exact .inl (.inl h)
      · rcases hat with hat | hat
        · exact .inl (.inr (hat.symm.trans h))
        · rw [hat] at h
          simp only [Option.some.injEq, World.size_alloc] at h
          exact .inr (by omega)
  case done =>
    rintro O W0 W ⟨v, rfl, hv0, hr0, hpl, hsV⟩ s0 hd
    have hvs : w.heap.size + 1 ≤ V.heap.size := by omega
    have hvs2 : V.heap.size ≤ w.heap.size + 1 := by omega
    clear zV
    have hv := boxed_same hv0 s0 (by omega)
    have hr := own_same hr0 s0 (fun g hg _ _ => by omega)
    have hcv := hv.cell
    have sW : Same (fun j => j < V.heap.size ∧ j ≠ w.heap.size) V W := hsV.trans (s0.mono (fun j _ hj => by omega))
    have hWs := sW.size
    have hbW : Below w.heap.size w W := HBV.out.trans (sW.below (by omega) (fun j hj => by omega))
    obtain ⟨g, cap, rfl, hbg, hgl, hN⟩ := nodes_own hr (fun h => by have := Dl.nds_pos t 1; rw [h] at this; simp at this)
    have HD := Lib.hid hd
    have HBW := Lib.hid hbW
    have HN := Lib.hid hN
    have hdl := (Array.getElem?_eq_some_iff.1 hd).1
    clear hv0 hr0 hsV s0 sW hbW hr hN hd
    gi_wp2
    refine ⟨by simp, .inl ⟨_, _, rfl, run_takeDeferred HD.out, ?_⟩⟩
    have sP : Same (· ≠ V.heap.size) W (W.putObj V.heap.size (.deferred none)) := (Same.refl _ _).putObj _ (by simp)
    refine ⟨_, results_tmp rfl _ _ _, g, cap, rfl, by omega, by have := sP.size; omega, fun i x j hi hj => ?_, HBW.out.trans (sP.below HBW.out.size (fun j hj => by omega))⟩
    have q := HN.out i x j hi hj
    rcases hx : (nodeC x)[j]? with _ | u
    · have := List.getElem?_eq_none_iff.1 hx
      rw [nodeC_len] at this
      omega
    · rw [hx] at q
      exact sP.cell q (by simp; omega)
  case stop =>
    intro W0 W h
    exact h.elim
set_option maxRecDepth 100000 in
theorem collect_calls (n₀ c : Nat) (t : Dl.T) (w : World) (hc : w.heap[c]? = some (.cells (TCells t) 24 (0, 0))) (ht : TIn n₀ w t) (hn : n₀ ≤ c) (hnl : (Dl.nds t 1).length ≤ 40) :
    Calls Tryd.prog 26 #[.func (.func 55) #[] #[.pointer (some ⟨c, 0, none⟩)]] w fun e w' => ∃ g cap, e = .returned (.slice (some ⟨g, 0, none⟩) (Dl.nds t 1).length cap) ∧ w.heap.size ≤ g ∧ g < w'.heap.size ∧ NodesAt w' g 0 (Dl.nds t 1) ∧ Below w.heap.size w w' := by
  have HA := Lib.hid (append_calls n₀ c t w hc ht hn hnl)
  clear hc ht
  go_enter Tryd.func26, Tryd.ntmps26
  go_wp2_with fail
  refine HA.out.mono ?_
  rintro e w' ⟨g, cap, rfl, h1, h2, h3, h4⟩
  go_wp2_with fail
  go_ret
  exact ⟨g, cap, rfl, h1, h2, h3, h4⟩
end Go.Proofs.YtlbfnafniobnaaaDoor

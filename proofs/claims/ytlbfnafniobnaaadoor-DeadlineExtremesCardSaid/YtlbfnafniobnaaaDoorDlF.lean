/- Events: rows of whole numbers; sorting and compacting them. -/
import Derived.Test.YtlbfnafniobnaaaDoorDlE
import Derived.Test.YtlbfnafniobnaaaDoorDtE
import Derived.Test.YtlbfnafniobnaaaDoorShelf
import Derived.Maps.AppendAt
import Derived.Maps.OwnIn
namespace Go.Proofs.YtlbfnafniobnaaaDoor
open Go.RowKit Go.Shelf
attribute [local go_sem] Oper.semAt_some

theorem mapBlock_heap (W : World) (g : Nat) (f : Array Value → Array Value) (j : Nat) (h : j ≠ g) : (Sort.mapBlock W g f).heap[j]? = W.heap[j]? := by
  unfold Sort.mapBlock
  simp [Array.getElem?_modify, Ne.symm h]
theorem below_sorted {α : Type} [Inhabited α] {B : Nat} {a W : World} (h : Below B a W) {g : Nat} (hg : B ≤ g) (hW : B ≤ W.heap.size) (enc : α → Value) (n off : Nat) (d : Array α) (os : Array Obj) : Below B a (Sort.grow (Sort.putRow enc (Sort.ahead W n) g off d) os) :=
  ⟨h.os, h.tape, h.output, by
    rw [Sort.size_grow, Sort.size_putRow]
    have := h.size
    simp
    omega, fun j hj => by
    rw [Sort.heap_grow_old _ _ (by rw [Sort.size_putRow]; simp; omega)]
    exact (mapBlock_heap _ _ _ _ (by omega)).trans (h.block j hj)⟩
theorem below_put {α : Type} [Inhabited α] {B : Nat} {a W : World} (h : Below B a W) {g : Nat} (hg : B ≤ g) (hW : B ≤ W.heap.size) (enc : α → Value) (n off : Nat) (d : Array α) : Below B a (Sort.putRow enc (Sort.ahead W n) g off d) := by
  have := below_sorted h hg hW enc n off d #[]
  rwa [Sort.grow_empty] at this
theorem same_grown {A B : World} {r : Nat} (h : Same (· ≠ r) A B) : A.grownBy B (some r) := ⟨h.os, h.tape, h.output, h.size, fun k hk hne => h.block k hk (fun e => hne (by rw [e]))⟩
theorem own_block {w : World} {base : Nat} {e : TypeId} {size : Nat} {v : Value} {n : Nat} {xs : List Value} (h : w.ownsRow base e size v n xs) {g : Nat} (hg : v.ownBlock = some g) : base ≤ g ∧ g < w.heap.size := by
  rcases h.2 with ⟨rfl, _⟩ | ⟨g', cap, cur, rfl, hb, hgg, _⟩
  · simp [Value.ownBlock] at hg
  · simp only [Value.ownBlock, Option.some.injEq] at hg
    subst hg
    exact ⟨hb, (Array.getElem?_eq_some_iff.1 hgg).1⟩
theorem own_same {A B : World} {keep : Nat → Prop} {base : Nat} {e : TypeId} {size : Nat} {v : Value} {n : Nat} {xs : List Value} (h : A.ownsRow base e size v n xs) (hs : Same keep A B) (hk : ∀ g, base ≤ g → g < A.heap.size → v.ownBlock = some g → keep g) : B.ownsRow base e size v n xs := by
  refine ⟨h.1, ?_⟩
  rcases h.2 with hn | ⟨g, cap, cur, rfl, hb, hgg, rest⟩
  · exact .inl hn
  · exact .inr ⟨g, cap, cur, rfl, hb, hs.heap hgg (hk g hb (Array.getElem?_eq_some_iff.1 hgg).1 rfl), rest⟩
theorem boxed_same {A B : World} {keep : Nat → Prop} {b : Nat} {t : TypeId} {v : Value} (h : Boxed A b t v) (hs : Same keep A B) (hk : keep b) : Boxed B b t v := hs.heap h hk
theorem info_int : (Tryd.prog.info? 3).map (fun i => (i.zero, i.size, i.bytes)) = some (some (.int .i64 0), 1, 8) := by kernel_rfl
theorem own_holds {W : World} {base : Nat} {g n cap : Nat} {xs : List Int} (h : W.ownsRow base 3 1 (.slice (some ⟨g, 0, none⟩) n cap) xs.length (xs.map (Value.int .i64))) : n = xs.length ∧ xs.length ≤ cap ∧ Sort.Holds (Value.int .i64) W g 0 xs.toArray := by
  rcases h.2 with ⟨hv, _⟩ | ⟨g', cap', cur, hv, hb, hg, h3, _, _, ht⟩
  · simp at hv
  · simp only [Value.slice.injEq, Option.some.injEq, Addr.mk.injEq, and_true] at hv
    obtain ⟨⟨rfl, _⟩, rfl, rfl⟩ := hv
    refine ⟨rfl, h3, fun j hj => ?_⟩
    have hj' : j < xs.length := by simpa using hj
    have e1 : (cur.toList.take (xs.length * 1))[j]? = (xs.map (Value.int .i64))[j]? := by rw [ht]
    rw [List.getElem?_take, if_pos (by omega), List.getElem?_map] at e1
    constructor
    · simp only [World.cell?, hg, Nat.zero_add]
      have e2 : cur[j]? = some (.int .i64 xs.toArray[j]!) := by
        rw [← Array.getElem?_toList, e1]
        simp [hj']
      simpa using e2
    · simp [World.frozen?, hg]
theorem hols_of_holds {W : World} {g : Nat} {xs ys : List Int} (h : Sort.Holds (Value.int .i64) W g 0 (xs ++ ys).toArray) : Hols W (some ⟨g, 0, none⟩) xs := by
  refine .inr ⟨g, 0, rfl, fun j hj => ?_⟩
  have := (h j (by simp; omega)).1
  rw [this]
  simp [hj, List.getD_eq_getElem?_getD, List.getElem?_append_left hj]

/-- whether a node has an event -/
def isEv (t : Dl.T) : Bool := (t.kd == 2) || (t.kd == 3)
def evs (l : List (Dl.T × Nat)) : List Int := (l.filter fun x => isEv x.1).map fun x => x.1.ev
theorem evs_snoc (l : List (Dl.T × Nat)) (x : Dl.T × Nat) : evs (l ++ [x]) = evs l ++ (if isEv x.1 then [x.1.ev] else []) := by
  unfold evs
  rw [List.filter_append, List.map_append]
  congr 1
  cases h : isEv x.1 <;> simp [h]
theorem evs_len (l : List (Dl.T × Nat)) : (evs l).length ≤ l.length := by
  unfold evs
  rw [List.length_map]
  exact List.length_filter_le _ _
/-- the events of a term -/
def evT (t : Dl.T) : List Int := Lib.compact ((evs (Dl.nds t 1)).mergeSort fun x y => decide (x ≤ y))
def eventsT (t : Dl.T) : List Int := if validT t 1000 then evT t else []
theorem compact_len (zs : List Int) : (Lib.compact zs).length ≤ zs.length := by
  unfold Lib.compact Lib.compactUpTo
  rw [List.length_map]
  exact Nat.le_trans (List.length_filter_le _ _) (by simp)

set_option maxRecDepth 100000 in
theorem events_out (n₀ : Nat) (t : Dl.T) (w : World) (ht : TIn n₀ w t) (hn : n₀ ≤ w.heap.size) (h : validT t 1000 = false) :
    Calls Tryd.prog 14 #[TV t] w fun e w' => e = .returned (.slice none 0 0) ∧ Below w.heap.size w w' := by
  have HT := Lib.hid ht
  have H := Lib.hid h
  clear ht h
  have hva := fun W (hb : Below w.heap.size w W) => valid_any n₀ t 1000 W (TIn.below (hb.mono hn) t HT.out) (Nat.le_trans hn hb.size)
  simp only [TV] at hva ⊢
  have HVA := Lib.hid hva
  clear hva
  go_enter Tryd.func14, Tryd.ntmps14
  go_wp2_with fail
  refine (HVA.out _ (by repeat (first | exact Below.refl _ _ | assumption | refine below_drewN ?_ _ | refine Below.setCell ?_ (by first | (simp; done) | (simp; omega)) _ | refine Below.alloc ?_ (by first | (simp; done) | (simp; omega) | omega) _ | refine Below.drew ?_ | refine Below.trans ?_ (Below.mono (by assumption) (by first | (simp; done) | (simp; omega) | omega))))).mono ?_
  rintro e w' ⟨rfl, hb⟩
  rw [H.out]
  go_wp2_with fail
  go_ret
  exact ⟨rfl, (by repeat (first | exact Below.refl _ _ | assumption | refine below_drewN ?_ _ | refine Below.setCell ?_ (by first | (simp; done) | (simp; omega)) _ | refine Below.alloc ?_ (by first | (simp; done) | (simp; omega) | omega) _ | refine Below.drew ?_ | refine Below.trans ?_ (Below.mono (by assumption) (by first | (simp; done) | (simp; omega) | omega))))⟩
set_option maxRecDepth 100000 in
set_option maxHeartbeats 2000000 in
theorem events_in (n₀ : Nat) (t : Dl.T) (w : World) (ht : TIn n₀ w t) (hn : n₀ ≤ w.heap.size) (h : validT t 1000 = true) :
    Calls Tryd.prog 14 #[TV t] w fun e w' => ∃ p cap, e = .returned (.slice p (evT t).length cap) ∧ Hols w' p (evT t) ∧ Below w.heap.size w w' := by
  obtain ⟨i0, hi, hz0, hz1, hz2⟩ := info_parts info_int
  have HI := Lib.hid (And.intro hi (And.intro hz0 (And.intro hz1 hz2)))
  clear hi hz0 hz1 hz2
  have HT := Lib.hid ht
  have H := Lib.hid h
  have hnl : (Dl.nds t 1).length ≤ 40 := by
    have := vld_len 1000 (Dl.nds t 1) 0 (by omega) (by unfold validT at h; simp only [Bool.and_eq_true] at h; exact h.2)
    omega
  clear ht h
  have hva := fun W (hb : Below w.heap.size w W) => valid_any n₀ t 1000 W (TIn.below (hb.mono hn) t HT.out) (Nat.le_trans hn hb.size)
  simp only [TV] at hva ⊢
  have HVA := Lib.hid hva
  clear hva
  refine (callsIn_wide (n := 3)).1 ?_
  refine callsIn_of_wp_marks Tryd.func14 rfl trivial ?_ rfl
  simp only [Tryd.ntmps14, List.size_toArray, List.length_cons, List.length_nil, Nat.reduceAdd, Nat.reduceSub, Array.replicate_succ, Array.replicate_zero, List.push_toArray, List.append_toArray, List.nil_append, List.cons_append]
  gi_wp2
  refine ⟨trivial, ?_⟩
  refine (callsIn_wide.2 (HVA.out _ (by repeat (first | exact Below.refl _ _ | assumption | refine below_drewN ?_ _ | refine Below.setCell ?_ (by first | (simp; done) | (simp; omega)) _ | refine Below.alloc ?_ (by first | (simp; done) | (simp; omega) | omega) _ | refine Below.drew ?_ | refine Below.trans ?_ (Below.mono (by assumption) (by first | (simp; done) | (simp; omega) | omega)))))).mono ?_
  rintro e Wv ⟨rfl, hbv⟩
  rw [H.out]
  have hzv := hbv.size
  rw [World.size_alloc] at hzv
  have bv : Below w.heap.size w Wv := (by repeat (first | exact Below.refl _ _ | assumption | refine below_drewN ?_ _ | refine Below.setCell ?_ (by first | (simp; done) | (simp; omega)) _ | refine Below.alloc ?_ (by first | (simp; done) | (simp; omega) | omega) _ | refine Below.drew ?_ | refine Below.trans ?_ (Below.mono (by assumption) (by first | (simp; done) | (simp; omega) | omega))))
  have s0 : Wv.heap[w.heap.size]? = some (.cells (TCells t) 24 (0, 0)) := (hbv.block _ (by simp)).trans (World.alloc_heap_new w _)
  have q0 : Wv.cell? ⟨w.heap.size, 0, none⟩ = some (.int .i64 t.kd) := by simp [World.cell?, s0, TCells]
  have q1 : Wv.cell? ⟨w.heap.size, 1, none⟩ = some (.int .i64 t.n) := by simp [World.cell?, s0, TCells]
  have q2 : Wv.cell? ⟨w.heap.size, 2, none⟩ = some (.int .i64 t.ev) := by simp [World.cell?, s0, TCells]
  have q3 : Wv.cell? ⟨w.heap.size, 3, none⟩ = some (.bool t.bz) := by simp [World.cell?, s0, TCells]
  have q4 : Wv.cell? ⟨w.heap.size, 4, none⟩ = some (.slice t.p t.kids.length t.cap) := by simp [World.cell?, s0, TCells]
  have l0 : w.heap.size < Wv.heap.size := by omega
  have l1 : w.heap.size < Wv.heap.size + 1 := by omega
  have HBv := Lib.hid bv
  clear hbv bv s0
  gi_wp2
  refine ⟨trivial, ?_⟩
  refine (callsIn_wide.2 (nodes_plain t _)).mono ?_
  rintro e w' ⟨rfl, rfl⟩
  clear q0 q1 q2 q3 q4 l0 l1
  gi_wp2
  obtain ⟨V, hV⟩ : ∃ V, V = (Wv.alloc (.cells #[.slice none 0 0] 26)).alloc (.cells (TCells t) 24) := ⟨_, rfl⟩
  have zV : V.heap.size = Wv.heap.size + 2 := by rw [hV]; simp
  have bV : Below Wv.heap.size Wv V := by rw [hV]; exact (by repeat (first | exact Below.refl _ _ | assumption | refine below_drewN ?_ _ | refine Below.setCell ?_ (by first | (simp; done) | (simp; omega)) _ | refine Below.alloc ?_ (by first | (simp; done) | (simp; omega) | omega) _ | refine Below.drew ?_ | refine Below.trans ?_ (Below.mono (by assumption) (by first | (simp; done) | (simp; omega) | omega))))
  have v2 : Boxed V Wv.heap.size 26 (.slice none 0 0) := by show V.heap[_]? = _; rw [hV]; repeat (first | exact heap_new (by simp) | refine (Below.heap_alloc _ _ _ (by first | (simp; done) | (simp; omega))).trans ?_)
  have v3 : V.heap[Wv.heap.size + 1]? = some (.cells (TCells t) 24 (0, 0)) := by rw [hV]; repeat (first | exact heap_new (by simp) | refine (Below.heap_alloc _ _ _ (by first | (simp; done) | (simp; omega))).trans ?_)
  have bwV : Below w.heap.size w V := HBv.out.trans (bV.mono (by omega))
  have htV : TIn n₀ V t := TIn.below (bwV.mono hn) t HT.out
  have HBV := Lib.hid bwV
  rw [← hV]
  clear hV bV bwV
  refine wpIn_range_own (F := Fence.wide) rfl (by omega) (gf := 55) (lb := #[.pointer (some ⟨Wv.heap.size + 1, 0, none⟩)]) rfl trivial (enters_of Tryd.func55 (by kernel_rfl) rfl)
    (enc := fun x => #[NV x]) (xs := Dl.nds t 1) (Fx := fun j => j < n₀ ∨ j = Wv.heap.size + 1)
    (nodes_in _ n₀ (Wv.heap.size + 1) t V v3 (by omega) htV)
    (fun _ => rfl)
    (fun pre O W => ∃ v, O = (fun j => j = Wv.heap.size ∨ v.ownBlock = some j) ∧ Boxed W Wv.heap.size 26 v ∧ W.ownsRow (V.heap.size + 2) 3 1 v (evs pre).length ((evs pre).map (Value.int .i64)) ∧ pre.length ≤ 40 ∧ Same (fun j => j < V.heap.size ∧ j ≠ Wv.heap.size) V W)
    (fun _ => False)
    (fun j => j = Wv.heap.size ∨ (Value.slice none 0 0).ownBlock = some j)
    (fun pre O W h j hj => by
      obtain ⟨v, rfl, _, hr, _, hs⟩ := h
      have := hs.size
      rcases hj with rfl | hj
      · omega
      · have := own_block hr hj
        omega)
    (fun pre O W h => by obtain ⟨_, _, _, _, h, _⟩ := h; omega)
    (fun pre O W W' h hs hz => by
      obtain ⟨v, hO, hv, hr, hl, hS⟩ := h
      exact ⟨v, hO, boxed_same hv hs (by omega), own_same hr hs (fun g hg _ _ => by omega), hl, hS.trans (hs.mono (fun j _ hj => by omega))⟩)
    (fun _ _ h _ _ => h)
    (fun j hj h => by
      rcases hj with rfl | hj
      · omega
      · simp [Value.ownBlock] at hj)
    (fun a b => ⟨_, rfl, (v2.alloc _).alloc _, World.ownsRow_nil _ _ _ _, by simp, ((Same.refl _ _).alloc _).alloc _⟩)
    (fun x => some (.cells #[.int .i64 x.1.kd, .int .i64 x.1.n, .int .i64 x.1.ev, .bool x.1.bz, .slice x.1.p x.1.kids.length x.1.cap, .int .i64 (x.2 : Nat)] 64))
    (fun s x => { tmps := #[.agg #[.int .i64 t.kd, .int .i64 t.n, .int .i64 t.ev, .bool t.bz, .slice t.p t.kids.length t.cap], .pointer (some ⟨w.heap.size, 0, none⟩), .slice none 0 0, .pointer (some ⟨Wv.heap.size, 0, none⟩), .pointer (some ⟨s, 0, none⟩), .agg #[.int .i64 t.kd, .int .i64 t.n, .int .i64 t.ev, .bool t.bz, .slice t.p t.kids.length t.cap], .bool true, .bool false, .agg #[.int .i64 t.kd, .int .i64 t.n, .int .i64 t.ev, .bool t.bz, .slice t.p t.kids.length t.cap], .func (.func 55) #[] #[.pointer (some ⟨Wv.heap.size + 1, 0, none⟩)], NV x, undef, undef, undef, undef, undef, undef, undef, undef, undef, undef, undef, undef, undef, undef, undef, undef, undef, undef, undef, undef], defers := [] }) ?assign ?body ?done ?stop
  case assign =>
    intro l x W K hK
    simp only [NV, allocO] at hK ⊢
    gi_wp2
    exact hK
  case body =>
    rintro l pre x O W0 W1 W2 hx ⟨v, rfl, hv0, hr0, hpl, hsV⟩ hsz s01 s12 z2
    have hpl1 : (pre ++ [x]).length ≤ 40 := Nat.le_trans hx.length_le hnl
    simp only [allocO] at s12 z2
    have h01 := s01.size
    have z2' : W2.heap.size = W1.heap.size + 1 := by rw [z2]; simp
    have sV : Same (fun j => j < V.heap.size ∧ j ≠ Wv.heap.size) V W2 :=
      ((hsV.trans ((Same.of_below s01).mono (fun _ _ _ => trivial))).alloc _).trans (s12.mono (fun j _ hj => by omega))
    have s02 : Same (fun j => j ≠ V.heap.size + 1) W0 W2 := ((((Same.of_below s01).mono (fun _ _ _ => trivial)).alloc _)).trans s12
    have hob : ∀ g, v.ownBlock = some g → V.heap.size + 2 ≤ g ∧ g < W0.heap.size := fun g hg => own_block hr0 hg
    have hv := boxed_same hv0 s02 (by omega)
    have hrow := own_same hr0 s02 (fun g hg _ _ => by omega)
    have cx : W2.heap[W1.heap.size]? = some (.cells #[.int .i64 x.1.kd, .int .i64 x.1.n, .int .i64 x.1.ev, .bool x.1.bz, .slice x.1.p x.1.kids.length x.1.cap, .int .i64 (x.2 : Nat)] 64 (0, 0)) := s12.heap (World.alloc_heap_new W1 _) (by omega)
    have x0 : W2.cell? ⟨W1.heap.size, 0, none⟩ = some (.int .i64 x.1.kd) := by simp [World.cell?, cx]
    have x2 : W2.cell? ⟨W1.heap.size, 2, none⟩ = some (.int .i64 x.1.ev) := by simp [World.cell?, cx]
    have hel := evs_len pre
    have hes := evs_snoc pre x
    have HV := Lib.hid hv
    have HR := Lib.hid hrow
    have HO := Lib.hid hob
    have HSV := Lib.hid sV
    have HPL := Lib.hid hpl1
    have hvc := hv.cell
    have hB2 : V.heap.size + 2 ≤ W2.heap.size := by omega
    have hB3 : W1.heap.size ≤ W2.heap.size := by omega
    have hB4 : W0.heap.size ≤ W1.heap.size := h01
    clear hsV hv0 hr0 s01 s12 s02 z2 z2' cx hv hrow sV hob hpl1 hx
    generalize hnow : evs pre = now at HR hel hes
    have HS := Lib.hid hes
    clear hnow hes
    cases hie : isEv x.1 with
    | true =>
      rw [hie, if_pos rfl] at HS
      have key : (x.1.kd == 2) = true ∨ (x.1.kd == 2) = false ∧ (x.1.kd == 3) = true := by
        unfold isEv at hie
        cases h2 : (x.1.kd == 2) with
        | true => exact .inl rfl
        | false => rw [h2, Bool.false_or] at hie; exact .inr ⟨rfl, hie⟩
      obtain ⟨hi, hz0, hz1, hz2⟩ := HI.out
      have HII := Lib.hid hi
      clear hi hie
      rcases key with h2 | ⟨h2, h3⟩
      all_goals
        gi_wp2_with (gi_at_builtin; refine wpListIn_append_own_at _ rfl _ _ 26 rfl (V.heap.size + 2) 3 i0 (.int .i64 0) 1 8 Tryd.underlying26 HII.out hz0 hz1 hz2 rfl (by decide) _ _ _ rfl (HR.out.alloc _) ⟨W2.heap.size, 0, none⟩ 1 1 [.int .i64 x.1.ev] rfl rfl (cell_one_new _ _ _) (by simp [Value.oneCell']) (by simp [maxLen]; omega) (by omega) (by rw [World.size_alloc]; omega) ?_; intro v' w1 hown' hgrow _ hat; obtain ⟨g', cap', rfl⟩ := ownsRow_succ hown'; have hv1 := (HV.out.alloc (.cells #[.int .i64 x.1.ev] 3)).kept hgrow (HV.out.not_row (by decide) HR.out); have hc1 := hv1.cell; have hf1 := hv1.frozen)
        have s3 : Same (fun j => ¬ (j = Wv.heap.size ∨ v.ownBlock = some j)) W2 (w1.setCell ⟨Wv.heap.size, 0, none⟩ (.slice (some ⟨g', 0, none⟩) (now.length + 1) cap')) :=
          (((Same.refl _ W2).alloc _).grown hgrow (fun r hr hk => hk (.inr hr))).setCell _ (fun hk => hk (.inl rfl))
        have hr2 := hown'.kept (grownBy_setCell' w1 Wv.heap.size (.slice (some ⟨g', 0, none⟩) (now.length + 1) cap')) (.inr (hv1.not_row (by decide) hown').symm)
        refine ⟨_, ⟨_, rfl, hv1.set _, ?_, HPL.out, HSV.out.trans (s3.mono (fun j _ hj h => ?_))⟩, s3, fun j hj => ?_⟩
        · rw [HS.out]
          simpa using hr2
        · rcases h with h | h
          · exact hj.2 h
          · have := (HO.out j h).1
            omega
        · rcases hj with h | h
          · exact .inl (.inl h)
          · rcases hat with hat | hat
            · exact .inl (.inr (hat.symm.trans h))
            · rw [hat] at h
              simp only [Option.some.injEq, World.size_alloc] at h
              exact .inr (by omega)
    | false =>
      rw [hie] at HS
      have h2 : (x.1.kd == 2) = false := by
        unfold isEv at hie
        exact (Bool.or_eq_false_iff.1 hie).1
      have h3 : (x.1.kd == 3) = false := by
        unfold isEv at hie
        exact (Bool.or_eq_false_iff.1 hie).2
      clear hie
      gi_wp2
      refine ⟨_, ⟨v, rfl, HV.out, ?_, HPL.out, HSV.out⟩, Same.refl _ _, fun j hj => .inl hj⟩
      rw [HS.out]
      simpa using HR.out
  case done =>
    rintro O W0 W ⟨v, rfl, hv0, hr0, hpl, hsV⟩ s0 hd
    have hvs : Wv.heap.size + 2 ≤ V.heap.size := by omega
    have hvs2 : V.heap.size ≤ Wv.heap.size + 2 := by omega
    clear zV
    have hv := boxed_same hv0 s0 (by omega)
    have hr := own_same hr0 s0 (fun g hg _ _ => by omega)
    have hc := hv.cell
    have sW : Same (fun j => j < V.heap.size ∧ j ≠ Wv.heap.size) V W := hsV.trans (s0.mono (fun j _ hj => by omega))
    have hWs := sW.size
    have hbW : Below w.heap.size w W := HBV.out.trans (sW.below (by omega) (fun j hj => by omega))
    have hel := evs_len (Dl.nds t 1)
    have HE := Lib.hid (show evT t = Lib.compact ((evs (Dl.nds t 1)).mergeSort fun x y => decide (x ≤ y)) from rfl)
    have HBW := Lib.hid hbW
    have hdl := (Array.getElem?_eq_some_iff.1 hd).1
    have hvl : Wv.heap.size < W.heap.size := by omega
    generalize evs (Dl.nds t 1) = zs at hr hel HE
    rcases hr.2 with ⟨rfl, h0⟩ | ⟨g, cap, cur, rfl, hbg, hgg, _⟩
    · obtain rfl : zs = [] := List.length_eq_zero_iff.1 h0
      have he : evT t = [] := by rw [HE.out]; simp [Lib.compact, Lib.compactUpTo]
      have HEE := Lib.hid he
      clear hv0 hr0 hsV s0 sW hbW hr he
      gi_wp2
      refine ⟨trivial, ?_⟩
      refine (callsIn_wide.2 (Tryd.slices_Sort_int_none none 0 _)).mono ?_
      rintro e w' ⟨rfl, hw'⟩
      rw [hw']
      clear hw'
      gi_wp2
      refine ⟨trivial, ?_⟩
      refine (callsIn_wide.2 (Tryd.slices_Compact_int_empty none 0 _)).mono ?_
      rintro e w' ⟨rfl, hw'⟩
      rw [hw']
      clear hw'
      gi_wp2
      refine ⟨by simp, .inl ⟨_, _, rfl, run_takeDeferred hd, ?_⟩⟩
      have sP : Same (· ≠ V.heap.size) W (W.putObj V.heap.size (.deferred none)) := (Same.refl _ _).putObj _ (by simp)
      exact ⟨_, results_tmp rfl _ _ _, none, 0, by rw [HEE.out]; rfl, .inl HEE.out, HBW.out.trans (sP.below HBW.out.size (fun j hj => by omega))⟩
    · obtain ⟨hn1, hcp, hH⟩ := own_holds hr
      have hgl := (Array.getElem?_eq_some_iff.1 hgg).1
      have HH := Lib.hid hH
      have HD := Lib.hid hd
      have HV := Lib.hid hv
      clear hv0 hr0 hsV s0 sW hbW hr hgg hH hd hn1
      gi_wp2
      refine ⟨trivial, ?_⟩
      refine (callsIn_wide.2 (Tryd.slices_Sort_int g 0 cap zs W HH.out hgl (by omega))).mono ?_
      rintro e W1 ⟨rfl, n, os, hW1⟩
      have hsl : (zs.mergeSort fun x y => decide (x ≤ y)).length = zs.length := List.length_mergeSort _
      generalize (zs.mergeSort fun x y => decide (x ≤ y)) = ss at hW1 hsl HE
      have z1 : W.heap.size ≤ W1.heap.size := by rw [hW1, Sort.size_grow, Sort.size_putRow]; simp
      have b1 : Below w.heap.size w W1 := by rw [hW1]; exact below_sorted HBW.out (by omega) (by omega) _ _ _ _ _
      have o1 : ∀ j, j < W.heap.size → j ≠ g → W1.heap[j]? = W.heap[j]? := fun j hj hne => by
        rw [hW1, Sort.heap_grow_old _ _ (by rw [Sort.size_putRow]; exact hj)]
        exact mapBlock_heap _ _ _ _ hne
      have h1 : Sort.Holds (Value.int .i64) W1 g 0 ss.toArray := by
        rw [hW1]
        exact Sort.holds_grow _ _ _ _ _ _ (by rw [Sort.size_putRow]; exact hgl) (Sort.holds_putRow _ _ _ _ _ _ (Sort.holds_ahead _ _ n _ _ _ HH.out) (by simp [hsl]))
      have v1 : Boxed W1 Wv.heap.size 26 (.slice (some ⟨g, 0, none⟩) zs.length cap) := (o1 _ hvl (by omega)).trans HV.out
      have d1 := (o1 V.heap.size hdl (by omega)).trans HD.out
      have c1 := v1.cell
      have HH1 := Lib.hid h1
      have HD1 := Lib.hid d1
      have HB1 := Lib.hid b1
      clear hW1 b1 o1 h1 v1 d1 hc
      have hsl2 : (ss.length : Int) = (zs.length : Int) := by rw [hsl]
      gi_wp2
      refine ⟨trivial, ?_⟩
      have hco := Tryd.slices_Compact_int g 0 cap ss W1 HH1.out (by omega) (by omega)
      rw [hsl] at hco
      refine (callsIn_wide.2 hco).mono ?_
      rintro e W2 ⟨rfl, q, hW2⟩
      have hcl := compact_len ss
      have h2 : Sort.Holds (Value.int .i64) W2 g 0 (Lib.compact ss ++ List.replicate (zs.length - (Lib.compact ss).length) 0).toArray := by
        rw [hW2]
        exact Sort.holds_putRow _ _ _ _ _ _ (Sort.holds_ahead _ _ q _ _ _ HH1.out) (by simp; omega)
      have b2 : Below w.heap.size w W2 := by rw [hW2]; exact below_put HB1.out (by omega) (by omega) _ _ _ _
      have d2 : W2.heap[V.heap.size]? = some (.deferred (some [])) := by
        rw [hW2]
        exact (mapBlock_heap _ _ _ _ (by omega)).trans HD1.out
      have hh2 := hols_of_holds h2
      have HH2 := Lib.hid hh2
      have HD2 := Lib.hid d2
      have HB2 := Lib.hid b2
      clear hW2 h2 b2 d2 hh2 hco
      rw [← HE.out] at HH2 ⊢
      gi_wp2
      refine ⟨by simp, .inl ⟨_, _, rfl, run_takeDeferred HD2.out, ?_⟩⟩
      have sP : Same (· ≠ V.heap.size) W2 (W2.putObj V.heap.size (.deferred none)) := (Same.refl _ _).putObj _ (by simp)
      refine ⟨_, results_tmp rfl _ _ _, some ⟨g, 0, none⟩, cap, rfl, ?_, HB2.out.trans (sP.below HB2.out.size (fun j hj => by omega))⟩
      rcases HH2.out with h | ⟨b, off, hp, h⟩
      · exact .inl h
      · cases hp
        exact .inr ⟨g, 0, rfl, fun j hj => sP.cell (h j hj) (by simp; omega)⟩
  case stop =>
    intro W0 W h
    exact h.elim
end Go.Proofs.YtlbfnafniobnaaaDoor

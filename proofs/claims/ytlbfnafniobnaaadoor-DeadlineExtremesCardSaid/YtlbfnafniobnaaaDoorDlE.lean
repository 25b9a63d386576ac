/- Valid. -/
import Derived.Test.YtlbfnafniobnaaaDoorDlD
namespace Go.Proofs.YtlbfnafniobnaaaDoor
open Go.RowKit Go.Shelf
attribute [local go_sem] Oper.semAt_some

theorem heap_new {w : World} {o : Obj} {n : Nat} (h : n = w.heap.size) : (w.alloc o).heap[n]? = some o := by rw [h]; exact World.alloc_heap_new w o
theorem box_cell {W : World} {b : Nat} {v : Value} {t : TypeId} (h : W.heap[b]? = some (.cells #[v] t (0, 0))) : W.cell? ⟨b, 0, none⟩ = some v ∧ W.frozen? ⟨b, 0, none⟩ = false := by
  constructor <;> simp [World.cell?, World.frozen?, h]
theorem box_set {W : World} {b : Nat} {v u : Value} {t : TypeId} (h : W.heap[b]? = some (.cells #[v] t (0, 0))) : (W.setCell ⟨b, 0, none⟩ u).heap[b]? = some (.cells #[u] t (0, 0)) := by
  obtain ⟨hlt, hk⟩ := Array.getElem?_eq_some_iff.1 h
  show (W.heap.modify b _)[b]? = _
  rw [Array.getElem?_eq_getElem (by rw [Array.size_modify]; exact hlt), Array.getElem_modify_self, hk]
  rfl
theorem nodes_plain (t : Dl.T) (w : World) : Calls Tryd.prog 27 #[.agg #[.int .i64 t.kd, .int .i64 t.n, .int .i64 t.ev, .bool t.bz, .slice t.p t.kids.length t.cap]] w fun e w' => e = .returned (.func (.func 55) #[] #[.pointer (some ⟨w.heap.size, 0, none⟩)]) ∧ w' = w.alloc (.cells (TCells t) 24) := nodes_calls t w
theorem vld_stop {ev : Int} {pre xs : List (Dl.T × Nat)} {x : Dl.T × Nat} (hx : (pre ++ [x]) <+: xs) (h : (okN x.1 ev && decide (pre.length < 40) && decide (x.2 ≤ 10)) = false) : vld ev 0 xs = false := by
  obtain ⟨r, rfl⟩ := hx
  rw [List.append_assoc, vld_append, List.singleton_append, vld, Nat.zero_add, h, Bool.false_and, Bool.and_false]
theorem vld_next {ev : Int} {pre : List (Dl.T × Nat)} {x : Dl.T × Nat} (hv : vld ev 0 pre = true) (h : (okN x.1 ev && decide (pre.length < 40) && decide (x.2 ≤ 10)) = true) : vld ev 0 (pre ++ [x]) = true := by
  rw [vld_append, hv, vld, Nat.zero_add, h]
  rfl
theorem fits_plain (s : Sh) (x : Dl.T × Nat) (a0 : Int) (w : World) (ha0 : 0 ≤ a0) (ha1 : a0 ≤ 1000) :
    Calls Tryd.prog 36 #[.agg #[.int .i64 s.most, .bool s.event, .bool s.business, .int .i64 s.few, .int .i64 s.many], .agg #[.int .i64 x.1.kd, .int .i64 x.1.n, .int .i64 x.1.ev, .bool x.1.bz, .slice x.1.p x.1.kids.length x.1.cap, .int .i64 (x.2 : Nat)], .int .i64 a0] w fun e w' => e = .returned (.bool (fitB s x.1 a0)) ∧ Below w.heap.size w w' := fits_calls s x a0 w ha0 ha1
theorem valid_out (t : Dl.T) (ev : Int) (w : World) (h : (decide (0 ≤ ev) && decide (ev ≤ 1000)) = false) :
    Calls Tryd.prog 17 #[TV t, .int .i64 ev] w fun e w' => e = .returned (.bool false) ∧ Below w.heap.size w w' := by
  have H := Lib.hid h
  clear h
  unfold TV
  go_enter Tryd.func17, Tryd.ntmps17
  go_wp2_with fail
  refine (within_calls _ _ _ _).mono ?_
  rintro e w' ⟨rfl, rfl⟩
  rw [H.out]
  go_wp2_with fail
  refine bodyPost_ret (v := .bool false) (by simp [results, Tryd.f17, go_sem]) rfl ⟨rfl, (by repeat (first | exact Below.refl _ _ | assumption | refine below_drewN ?_ _ | refine Below.setCell ?_ (by first | (simp; done) | (simp; omega)) _ | refine Below.alloc ?_ (by first | (simp; done) | (simp; omega) | omega) _ | refine Below.drew ?_ | refine Below.trans ?_ (Below.mono (by assumption) (by first | (simp; done) | (simp; omega) | omega))))⟩
set_option maxRecDepth 100000 in
set_option maxHeartbeats 2000000 in
theorem valid_in (n₀ : Nat) (t : Dl.T) (ev : Int) (w : World) (ht : TIn n₀ w t) (hn : n₀ ≤ w.heap.size) (h0 : 0 ≤ ev) (h1 : ev ≤ 1000) :
    Calls Tryd.prog 17 #[TV t, .int .i64 ev] w fun e w' => e = .returned (.bool (vld ev 0 (Dl.nds t 1))) ∧ Below w.heap.size w w' := by
  have HT := Lib.hid ht
  have hin : (decide (0 ≤ ev) && decide (ev ≤ 1000)) = true := by simp [h0, h1]
  have HIN := Lib.hid hin
  clear ht hin
  unfold TV
  refine (callsIn_wide (n := 3)).1 ?_
  refine callsIn_of_wp_marks Tryd.func17 rfl trivial ?_ rfl
  simp only [Tryd.ntmps17, List.size_toArray, List.length_cons, List.length_nil, Nat.reduceAdd, Nat.reduceSub, Array.replicate_succ, Array.replicate_zero, List.push_toArray, List.append_toArray, List.nil_append, List.cons_append]
  gi_wp2
  refine ⟨trivial, ?_⟩
  refine (callsIn_wide.2 (within_calls _ _ _ _)).mono ?_
  rintro e w' ⟨rfl, rfl⟩
  rw [HIN.out]
  gi_wp2
  refine ⟨trivial, ?_⟩
  obtain ⟨U, hU⟩ : ∃ U, U = ((w.alloc (.cells (TCells t) 24)).alloc (.cells #[.int .i64 ev] 3)).alloc (.cells #[.bool false] 4) := ⟨_, rfl⟩
  have zU : U.heap.size = w.heap.size + 3 := by rw [hU]; simp
  have bU : Below w.heap.size w U := by rw [hU]; exact (by repeat (first | exact Below.refl _ _ | assumption | refine below_drewN ?_ _ | refine Below.setCell ?_ (by first | (simp; done) | (simp; omega)) _ | refine Below.alloc ?_ (by first | (simp; done) | (simp; omega) | omega) _ | refine Below.drew ?_ | refine Below.trans ?_ (Below.mono (by assumption) (by first | (simp; done) | (simp; omega) | omega))))
  have u0 : U.heap[w.heap.size]? = some (.cells (TCells t) 24 (0, 0)) := by rw [hU]; repeat (first | exact heap_new (by simp) | refine (Below.heap_alloc _ _ _ (by first | (simp; done) | (simp; omega))).trans ?_)
  have u1 : U.heap[w.heap.size + 1]? = some (.cells #[.int .i64 ev] 3 (0, 0)) := by rw [hU]; repeat (first | exact heap_new (by simp) | refine (Below.heap_alloc _ _ _ (by first | (simp; done) | (simp; omega))).trans ?_)
  have u2 : U.heap[w.heap.size + 2]? = some (.cells #[.bool false] 4 (0, 0)) := by rw [hU]; repeat (first | exact heap_new (by simp) | refine (Below.heap_alloc _ _ _ (by first | (simp; done) | (simp; omega))).trans ?_)
  rw [TCells] at hU
  rw [← hU]
  clear hU
  refine (callsIn_wide.2 (shapes_calls _)).mono ?_
  rintro e Ws ⟨rfl, hms, hbs⟩
  have hzs := hbs.size
  rw [zU] at hms hzs ⊢
  have s0 := (hbs.block w.heap.size (by omega)).trans u0
  have s1 := (hbs.block (w.heap.size + 1) (by omega)).trans u1
  have s2 := (hbs.block (w.heap.size + 2) (by omega)).trans u2
  have bS : Below w.heap.size w Ws := bU.trans (hbs.mono (by omega))
  have hlm := (Array.getElem?_eq_some_iff.1 hms).1
  have q0 : Ws.cell? ⟨w.heap.size, 0, none⟩ = some (.int .i64 t.kd) := by simp [World.cell?, s0, TCells]
  have q1 : Ws.cell? ⟨w.heap.size, 1, none⟩ = some (.int .i64 t.n) := by simp [World.cell?, s0, TCells]
  have q2 : Ws.cell? ⟨w.heap.size, 2, none⟩ = some (.int .i64 t.ev) := by simp [World.cell?, s0, TCells]
  have q3 : Ws.cell? ⟨w.heap.size, 3, none⟩ = some (.bool t.bz) := by simp [World.cell?, s0, TCells]
  have q4 : Ws.cell? ⟨w.heap.size, 4, none⟩ = some (.slice t.p t.kids.length t.cap) := by simp [World.cell?, s0, TCells]
  have l0 : w.heap.size < Ws.heap.size := by omega
  have l1 : w.heap.size < Ws.heap.size + 1 := by omega
  clear u0 u1 u2
  gi_wp2
  refine ⟨trivial, ?_⟩
  refine (callsIn_wide.2 (nodes_plain t _)).mono ?_
  rintro e w' ⟨rfl, rfl⟩
  clear q0 q1 q2 q3 q4 l0 l1 hbs
  gi_wp2
  obtain ⟨V, hV⟩ : ∃ V, V = ((Ws.alloc (.cells #[.map (some (w.heap.size + 3))] 79)).alloc (.cells #[.int .i64 0] 3)).alloc (.cells (TCells t) 24) := ⟨_, rfl⟩
  have zV : V.heap.size = Ws.heap.size + 3 := by rw [hV]; simp
  have bV : Below Ws.heap.size Ws V := by rw [hV]; exact (by repeat (first | exact Below.refl _ _ | assumption | refine below_drewN ?_ _ | refine Below.setCell ?_ (by first | (simp; done) | (simp; omega)) _ | refine Below.alloc ?_ (by first | (simp; done) | (simp; omega) | omega) _ | refine Below.drew ?_ | refine Below.trans ?_ (Below.mono (by assumption) (by first | (simp; done) | (simp; omega) | omega))))
  have v1 : V.heap[Ws.heap.size]? = some (.cells #[.map (some (w.heap.size + 3))] 79 (0, 0)) := by rw [hV]; repeat (first | exact heap_new (by simp) | refine (Below.heap_alloc _ _ _ (by first | (simp; done) | (simp; omega))).trans ?_)
  have v2 : V.heap[Ws.heap.size + 1]? = some (.cells #[.int .i64 0] 3 (0, 0)) := by rw [hV]; repeat (first | exact heap_new (by simp) | refine (Below.heap_alloc _ _ _ (by first | (simp; done) | (simp; omega))).trans ?_)
  have v3 : V.heap[Ws.heap.size + 2]? = some (.cells (TCells t) 24 (0, 0)) := by rw [hV]; repeat (first | exact heap_new (by simp) | refine (Below.heap_alloc _ _ _ (by first | (simp; done) | (simp; omega))).trans ?_)
  have v4 := (bV.block _ (by omega)).trans s1
  have v5 := (bV.block _ (by omega)).trans s2
  have v6 := (bV.block _ (by omega)).trans hms
  have bwV : Below w.heap.size w V := bS.trans (bV.mono (by omega))
  have htV : TIn n₀ V t := TIn.below (bwV.mono hn) t HT.out
  rw [← hV]
  clear hV s0 s1 s2 hms bS bV
  have HV1 := Lib.hid v1
  have HV4 := Lib.hid v4
  have HV5 := Lib.hid v5
  have HV6 := Lib.hid v6
  have HBV := Lib.hid bwV
  clear v1 v4 v5 v6 bwV
  refine wpIn_range_own (F := Fence.wide) rfl (by omega) (gf := 55) (lb := #[.pointer (some ⟨Ws.heap.size + 1 + 1, 0, none⟩)]) rfl trivial (enters_of Tryd.func55 (by kernel_rfl) rfl)
    (enc := fun x => #[NV x]) (xs := Dl.nds t 1) (Fx := fun j => j < n₀ ∨ j = Ws.heap.size + 2)
    (nodes_in _ n₀ (Ws.heap.size + 2) t V v3 (by omega) htV)
    (fun _ => rfl)
    (fun pre O W => O = (fun j => j = Ws.heap.size + 1) ∧ vld ev 0 pre = true ∧ W.heap[Ws.heap.size + 1]? = some (.cells #[.int .i64 (pre.length : Nat)] 3 (0, 0)) ∧ Same (fun j => j < V.heap.size ∧ j ≠ Ws.heap.size + 1) V W)
    (fun W => vld ev 0 (Dl.nds t 1) = false ∧ W.heap[w.heap.size + 2]? = some (.cells #[.bool false] 4 (0, 0)) ∧ Below w.heap.size w W ∧ w.heap.size ≤ W.heap.size)
    (fun j => j = Ws.heap.size + 1)
    (fun pre O W h j hj => by rw [h.1] at hj; have := h.2.2.2.size; omega)
    (fun pre O W h => by have := vld_len ev pre 0 (by omega) h.2.1; omega)
    (fun pre O W W' h hs hz => ⟨h.1, h.2.1, hs.heap h.2.2.1 (by omega), h.2.2.2.trans (hs.mono (fun j _ hj => by omega))⟩)
    (fun W W' h hs hz => ⟨h.1, hs.heap h.2.1 (by omega), h.2.2.1.trans (hs.below h.2.2.2 (fun j hj => by omega)), by omega⟩)
    (fun j hj h => by omega)
    (fun a b => ⟨rfl, rfl, ((Below.refl _ V).alloc (Nat.le_refl _) _).alloc (by simp) _ |>.block _ (by omega) |>.trans v2, ((Same.refl _ _).alloc _).alloc _⟩)
    (fun x => some (.cells #[.int .i64 x.1.kd, .int .i64 x.1.n, .int .i64 x.1.ev, .bool x.1.bz, .slice x.1.p x.1.kids.length x.1.cap, .int .i64 (x.2 : Nat)] 64))
    (fun s x => { tmps := #[.agg #[.int .i64 t.kd, .int .i64 t.n, .int .i64 t.ev, .bool t.bz, .slice t.p t.kids.length t.cap], .int .i64 ev, .pointer (some ⟨w.heap.size, 0, none⟩), .pointer (some ⟨w.heap.size + 1, 0, none⟩), .pointer (some ⟨w.heap.size + 1 + 1, 0, none⟩), .pointer (some ⟨Ws.heap.size, 0, none⟩), .pointer (some ⟨Ws.heap.size + 1, 0, none⟩), .pointer (some ⟨s, 0, none⟩), undef, undef, .int .i64 ev, .bool true, .bool false, .map (some (w.heap.size + 3)), .agg #[.int .i64 t.kd, .int .i64 t.n, .int .i64 t.ev, .bool t.bz, .slice t.p t.kids.length t.cap], .func (.func 55) #[] #[.pointer (some ⟨Ws.heap.size + 1 + 1, 0, none⟩)], NV x, undef, undef, undef, undef, undef, undef, undef, undef, undef, undef, undef, undef, undef, undef, undef, undef, undef, undef, undef, undef, undef, undef, undef, undef, undef, undef, undef, undef], defers := [] }) ?assign ?body ?done ?stop
  case assign =>
    intro l x W K hK
    simp only [NV, allocO] at hK ⊢
    gi_wp2
    exact hK
  case body =>
    rintro l pre x O W0 W1 W2 hx ⟨rfl, hv, hk, hsV⟩ hsz s01 s12 z2
    have hpl := vld_len ev pre 0 (by omega) hv
    simp only [allocO] at s12 z2
    have z2' : W2.heap.size = W1.heap.size + 1 := by rw [z2]; simp
    have h01 := s01.size
    have sV : Same (fun j => j < V.heap.size ∧ j ≠ Ws.heap.size + 1) V W2 :=
      ((hsV.trans ((Same.of_below s01).mono (fun _ _ _ => trivial))).alloc _).trans (s12.mono (fun j _ hj => by omega))
    have ck : W2.heap[Ws.heap.size + 1]? = some (.cells #[.int .i64 (pre.length : Nat)] 3 (0, 0)) := s12.heap ((Below.heap_alloc _ _ _ (by omega)).trans ((s01.block _ (by omega)).trans hk)) (by omega)
    have cx : W2.heap[W1.heap.size]? = some (.cells #[.int .i64 x.1.kd, .int .i64 x.1.n, .int .i64 x.1.ev, .bool x.1.bz, .slice x.1.p x.1.kids.length x.1.cap, .int .i64 (x.2 : Nat)] 64 (0, 0)) := s12.heap (World.alloc_heap_new W1 _) (by omega)
    have c1 := sV.heap HV1.out (by omega)
    have c4 := sV.heap HV4.out (by omega)
    have c5 := sV.heap HV5.out (by omega)
    have c6 := sV.heap HV6.out (by omega)
    have bW2 : Below w.heap.size w W2 := HBV.out.trans (sV.below (by omega) (fun j hj => by omega))
    obtain ⟨k0, k1⟩ := box_cell ck
    obtain ⟨m0, _⟩ := box_cell c1
    obtain ⟨e0, _⟩ := box_cell c4
    obtain ⟨r0, r1⟩ := box_cell c5
    have x0 : W2.cell? ⟨W1.heap.size, 0, none⟩ = some (.int .i64 x.1.kd) := by simp [World.cell?, cx]
    have x1 : W2.cell? ⟨W1.heap.size, 1, none⟩ = some (.int .i64 x.1.n) := by simp [World.cell?, cx]
    have x2 : W2.cell? ⟨W1.heap.size, 2, none⟩ = some (.int .i64 x.1.ev) := by simp [World.cell?, cx]
    have x3 : W2.cell? ⟨W1.heap.size, 3, none⟩ = some (.bool x.1.bz) := by simp [World.cell?, cx]
    have x4 : W2.cell? ⟨W1.heap.size, 4, none⟩ = some (.slice x.1.p x.1.kids.length x.1.cap) := by simp [World.cell?, cx]
    have x5 : W2.cell? ⟨W1.heap.size, 5, none⟩ = some (.int .i64 (x.2 : Nat)) := by simp [World.cell?, cx]
    have g6 : (W2.setCell ⟨Ws.heap.size + 1, 0, none⟩ (.int .i64 ((pre.length : Int) + 1))).heap[w.heap.size + 3]? = some (mapO shapeL) := (Below.heap_setCell _ _ _ _ (by simp; omega)).trans c6
    have hlk := look_at (c := true) Tryd.underlying79 Tryd.underlying3 (z := .agg #[.int .i64 0, .bool false, .bool false, .int .i64 0, .int .i64 0]) (Tryd.zeroValue82 _) g6 x.1.kd
    rw [shapeL_look] at hlk
    have n1 : W1.heap.size ≠ Ws.heap.size + 1 := by omega
    have n2 : Ws.heap.size ≠ Ws.heap.size + 1 := by omega
    have n3 : w.heap.size + 2 ≠ Ws.heap.size + 1 := by omega
    have n4 : w.heap.size + 1 ≠ Ws.heap.size + 1 := by omega
    have n5 : Ws.heap.size + 1 ≠ w.heap.size + 2 := by omega
    have l1 : W1.heap.size < W2.heap.size := by omega
    have l2 : Ws.heap.size < W2.heap.size := by omega
    have l3 : w.heap.size + 2 < W2.heap.size := by omega
    have l4 : w.heap.size + 1 < W2.heap.size := by omega
    have l5 : Ws.heap.size + 1 < W2.heap.size := by omega
    have HX := Lib.hid hx
    have HVV := Lib.hid hv
    have HSV := Lib.hid sV
    have HB2 := Lib.hid bW2
    have HCK := Lib.hid ck
    have HC5 := Lib.hid c5
    have l7 : V.heap.size + 2 ≤ W1.heap.size := by omega
    clear hx hv sV bW2 ck c5 c1 c4 c6 cx s12 s01 hk hsV g6 z2 z2'
    clear r0 r1
    cases hs : shp x.1.kd with
    | none =>
      rw [hs] at hlk
      simp only [Option.map_none, Option.getD_none, Option.isSome_none, if_true] at hlk
      gi_wp2
      refine ⟨trivial, ?_⟩
      obtain ⟨X, hX⟩ : ∃ X, X = ((W2.setCell ⟨Ws.heap.size + 1, 0, none⟩ (.int .i64 ((pre.length : Int) + 1))).alloc (.cells #[.int .i64 0, .bool false, .bool false, .int .i64 0, .int .i64 0] 82)) := ⟨_, rfl⟩
      have zX : X.heap.size = W2.heap.size + 1 := by rw [hX]; simp
      have sX : Same (fun j => j ≠ Ws.heap.size + 1) W2 X := by rw [hX]; repeat (first | exact Same.refl _ _ | refine Same.setCell ?_ _ (by simp; try omega) | refine Same.alloc ?_ _)
      have bX : Below w.heap.size w X := by rw [hX]; have q := HB2.out; repeat (first | exact q | refine Below.setCell ?_ (by simp; try omega) _ | refine Below.alloc ?_ (by simp; try omega) _)
      have kX : X.heap[Ws.heap.size + 1]? = some (.cells #[.int .i64 ((pre.length : Int) + 1)] 3 (0, 0)) := by
        rw [hX]
        exact (Below.heap_alloc _ _ _ (by simp; omega)).trans (box_set HCK.out)
      have h5X : X.heap[w.heap.size + 2]? = some (.cells #[.bool false] 4 (0, 0)) := sX.heap HC5.out (by omega)
      obtain ⟨r0, r1⟩ := box_cell h5X
      have l6 : w.heap.size + 2 < X.heap.size := by omega
      have HSX := Lib.hid sX
      have HBX := Lib.hid bX
      have HKX := Lib.hid kX
      have H5X := Lib.hid h5X
      rw [← hX]
      clear hX hlk k0 k1 m0 x0 x1 x2 x3 x4 x5 e0 sX bX kX h5X
      gi_wp2
      refine ⟨?_, vld_stop HX.out (by unfold okN; rw [hs]; rfl), ?_, ?_, ?_⟩
      · exact Same.setCell (HSX.out.mono (fun j _ hj => by omega)) _ (by simp; omega)
      · exact box_set H5X.out
      · exact HBX.out.setCell (by first | (simp; done) | (simp; omega)) _
      · simp
        omega
    | some s =>
      rw [hs, Option.map_some, SVal] at hlk
      simp only [Option.getD_some, Option.isSome_some, if_true] at hlk
      by_cases hc : pre.length < 40
      rotate_left
      · have hgt : (40 : Int) < (pre.length : Int) + 1 := by omega
        gi_wp2
        refine ⟨trivial, ?_⟩
        obtain ⟨X, hX⟩ : ∃ X, X = ((W2.setCell ⟨Ws.heap.size + 1, 0, none⟩ (.int .i64 ((pre.length : Int) + 1))).alloc (.cells #[.int .i64 s.most, .bool s.event, .bool s.business, .int .i64 s.few, .int .i64 s.many] 82)) := ⟨_, rfl⟩
        have zX : X.heap.size = W2.heap.size + 1 := by rw [hX]; simp
        have sX : Same (fun j => j ≠ Ws.heap.size + 1) W2 X := by rw [hX]; repeat (first | exact Same.refl _ _ | refine Same.setCell ?_ _ (by simp; try omega) | refine Same.alloc ?_ _)
        have bX : Below w.heap.size w X := by rw [hX]; have q := HB2.out; repeat (first | exact q | refine Below.setCell ?_ (by simp; try omega) _ | refine Below.alloc ?_ (by simp; try omega) _)
        have kX : X.heap[Ws.heap.size + 1]? = some (.cells #[.int .i64 ((pre.length : Int) + 1)] 3 (0, 0)) := by
          rw [hX]
          exact (Below.heap_alloc _ _ _ (by simp; omega)).trans (box_set HCK.out)
        have h5X : X.heap[w.heap.size + 2]? = some (.cells #[.bool false] 4 (0, 0)) := sX.heap HC5.out (by omega)
        obtain ⟨r0, r1⟩ := box_cell h5X
        have l6 : w.heap.size + 2 < X.heap.size := by omega
        have HSX := Lib.hid sX
        have HBX := Lib.hid bX
        have HKX := Lib.hid kX
        have H5X := Lib.hid h5X
        rw [← hX]
        clear hX hlk k0 k1 m0 x0 x1 x2 x3 x4 x5 e0 sX bX kX h5X
        gi_wp2
        refine ⟨?_, vld_stop HX.out (by rw [decide_eq_false hc]; simp), ?_, ?_, ?_⟩
        · exact Same.setCell (HSX.out.mono (fun j _ hj => by omega)) _ (by simp; omega)
        · exact box_set H5X.out
        · exact HBX.out.setCell (by first | (simp; done) | (simp; omega)) _
        · simp
          omega
      have hle : ¬ (40 : Int) < (pre.length : Int) + 1 := by omega
      by_cases hd : x.2 ≤ 10
      rotate_left
      · have hgt : (10 : Int) < (x.2 : Int) := by omega
        gi_wp2
        refine ⟨trivial, ?_⟩
        obtain ⟨X, hX⟩ : ∃ X, X = ((W2.setCell ⟨Ws.heap.size + 1, 0, none⟩ (.int .i64 ((pre.length : Int) + 1))).alloc (.cells #[.int .i64 s.most, .bool s.event, .bool s.business, .int .i64 s.few, .int .i64 s.many] 82)) := ⟨_, rfl⟩
        have zX : X.heap.size = W2.heap.size + 1 := by rw [hX]; simp
        have sX : Same (fun j => j ≠ Ws.heap.size + 1) W2 X := by rw [hX]; repeat (first | exact Same.refl _ _ | refine Same.setCell ?_ _ (by simp; try omega) | refine Same.alloc ?_ _)
        have bX : Below w.heap.size w X := by rw [hX]; have q := HB2.out; repeat (first | exact q | refine Below.setCell ?_ (by simp; try omega) _ | refine Below.alloc ?_ (by simp; try omega) _)
        have kX : X.heap[Ws.heap.size + 1]? = some (.cells #[.int .i64 ((pre.length : Int) + 1)] 3 (0, 0)) := by
          rw [hX]
          exact (Below.heap_alloc _ _ _ (by simp; omega)).trans (box_set HCK.out)
        have h5X : X.heap[w.heap.size + 2]? = some (.cells #[.bool false] 4 (0, 0)) := sX.heap HC5.out (by omega)
        obtain ⟨r0, r1⟩ := box_cell h5X
        have l6 : w.heap.size + 2 < X.heap.size := by omega
        have HSX := Lib.hid sX
        have HBX := Lib.hid bX
        have HKX := Lib.hid kX
        have H5X := Lib.hid h5X
        rw [← hX]
        clear hX hlk k0 k1 m0 x0 x1 x2 x3 x4 x5 e0 sX bX kX h5X
        gi_wp2
        refine ⟨?_, vld_stop HX.out (by rw [decide_eq_false hd]; simp), ?_, ?_, ?_⟩
        · exact Same.setCell (HSX.out.mono (fun j _ hj => by omega)) _ (by simp; omega)
        · exact box_set H5X.out
        · exact HBX.out.setCell (by first | (simp; done) | (simp; omega)) _
        · simp
          omega
      have hle2 : ¬ (10 : Int) < (x.2 : Int) := by omega
      gi_wp2
      refine ⟨trivial, ?_⟩
      obtain ⟨X, hX⟩ : ∃ X, X = ((W2.setCell ⟨Ws.heap.size + 1, 0, none⟩ (.int .i64 ((pre.length : Int) + 1))).alloc (.cells #[.int .i64 s.most, .bool s.event, .bool s.business, .int .i64 s.few, .int .i64 s.many] 82)) := ⟨_, rfl⟩
      have zX : X.heap.size = W2.heap.size + 1 := by rw [hX]; simp
      have sX : Same (fun j => j ≠ Ws.heap.size + 1) W2 X := by rw [hX]; repeat (first | exact Same.refl _ _ | refine Same.setCell ?_ _ (by simp; try omega) | refine Same.alloc ?_ _)
      have bX : Below w.heap.size w X := by rw [hX]; have q := HB2.out; repeat (first | exact q | refine Below.setCell ?_ (by simp; try omega) _ | refine Below.alloc ?_ (by simp; try omega) _)
      have kX : X.heap[Ws.heap.size + 1]? = some (.cells #[.int .i64 ((pre.length : Int) + 1)] 3 (0, 0)) := by
        rw [hX]
        exact (Below.heap_alloc _ _ _ (by simp; omega)).trans (box_set HCK.out)
      have h5X : X.heap[w.heap.size + 2]? = some (.cells #[.bool false] 4 (0, 0)) := sX.heap HC5.out (by omega)
      obtain ⟨r0, r1⟩ := box_cell h5X
      have l6 : w.heap.size + 2 < X.heap.size := by omega
      have HSX := Lib.hid sX
      have HBX := Lib.hid bX
      have HKX := Lib.hid kX
      have H5X := Lib.hid h5X
      rw [← hX]
      clear hX hlk k0 k1 m0 x0 x1 x2 x3 x4 x5 e0 sX bX kX h5X
      refine (CallsIn.inRound l (callsIn_wide.2 (fits_plain s x ev _ h0 h1))).mono ?_
      rintro e W3 ⟨rfl, hb3⟩
      have h53 := (hb3.block _ (by omega)).trans H5X.out
      have k3 := (hb3.block _ (by omega)).trans HKX.out
      obtain ⟨r0, r1⟩ := box_cell h53
      have l7 : w.heap.size + 2 < W3.heap.size := by have := hb3.size; omega
      have HB3 := Lib.hid hb3
      have HK3 := Lib.hid k3
      have H53 := Lib.hid h53
      have h3s := hb3.size
      clear hb3 h53 k3
      cases hf : fitB s x.1 ev with
      | false =>
        gi_wp2
        refine ⟨?_, vld_stop HX.out (by unfold okN; rw [hs]; simp only [hf, Bool.false_and]), ?_, ?_, ?_⟩
        · have q : Same (fun j => j = V.heap.size ∨ j = V.heap.size + 1) W2 W3 := (HSX.out.mono (fun j _ hj => by omega)).trans ((Same.of_below HB3.out).mono (fun _ _ _ => trivial))
          exact q.setCell _ (by simp; omega)
        · exact box_set H53.out
        · have q := HBX.out.trans (HB3.out.mono (by omega))
          exact q.setCell (by first | (simp; done) | (simp; omega)) _
        · simp
          omega
      | true =>
        gi_wp2
        refine ⟨_, ⟨rfl, vld_next HVV.out (by unfold okN; rw [hs, decide_eq_true hc, decide_eq_true hd]; simp only [hf, Bool.and_self]), ?_, ?_⟩, ?_, fun j h => .inl h⟩
        · rw [List.length_append]
          exact HK3.out
        · exact (HSV.out.trans (HSX.out.mono (fun j _ hj => hj.2))).trans ((Same.of_below HB3.out).mono (fun _ _ _ => trivial))
        · exact (HSX.out.mono (fun j _ hj => hj)).trans ((Same.of_below HB3.out).mono (fun _ _ _ => trivial))
  case done =>
    rintro O W0 W ⟨_, hv, hk, hsV⟩ s0 hd
    have HVV := Lib.hid hv
    have sW : Same (fun j => j < V.heap.size ∧ j ≠ Ws.heap.size + 1) V W := hsV.trans (s0.mono (fun j _ hj => by omega))
    have c5 := sW.heap HV5.out (by omega)
    have bW : Below w.heap.size w W := HBV.out.trans (sW.below (by omega) (fun j hj => by omega))
    obtain ⟨r0, r1⟩ := box_cell c5
    have hW := sW.size
    have l6 : w.heap.size + 2 < W.heap.size := by omega
    have HD := Lib.hid hd
    have HC5 := Lib.hid c5
    have HBW := Lib.hid bW
    clear hd c5 bW sW hsV hk s0 hv
    gi_wp2
    have hD : (W.setCell ⟨w.heap.size + 2, 0, none⟩ (.bool true)).heap[V.heap.size]? = some (.deferred (some [])) := (Below.heap_setCell _ _ _ _ (by simp; omega)).trans HD.out
    refine ⟨by simp, .inl ⟨_, _, rfl, run_takeDeferred hD, ?_⟩⟩
    obtain ⟨X, hX⟩ : ∃ X, X = (W.setCell ⟨w.heap.size + 2, 0, none⟩ (.bool true)).putObj V.heap.size (.deferred none) := ⟨_, rfl⟩
    have h5 : X.heap[w.heap.size + 2]? = some (.cells #[.bool true] 4 (0, 0)) := by
      rw [hX]
      exact (World.putObj_heap_other (by omega)).trans (box_set HC5.out)
    have hb : Below w.heap.size w X := by
      rw [hX]
      have q1 : Below w.heap.size w (W.setCell ⟨w.heap.size + 2, 0, none⟩ (.bool true)) := HBW.out.setCell (by first | (simp; done) | (simp; omega)) _
      exact q1.trans ((Same.putObj (keep := (· ≠ V.heap.size)) (Same.refl _ _) _ (by simp)).below q1.size (fun j hj => by omega))
    rw [← hX]
    refine ⟨.bool true, ?_, by rw [HVV.out], hb⟩
    have q := (box_cell h5).1
    simp [results, Tryd.f17, go_sem, q]
  case stop =>
    rintro W0 W ⟨hv, h5, hb, hz⟩ s0 hd
    have HVV := Lib.hid hv
    clear hv
    have c5 := s0.heap h5 (by omega)
    have bW : Below w.heap.size w W := hb.trans (s0.below hz (fun j hj => by omega))
    gi_wp2
    refine ⟨by simp, .inl ⟨_, _, rfl, run_takeDeferred hd, ?_⟩⟩
    obtain ⟨X, hX⟩ : ∃ X, X = W.putObj V.heap.size (.deferred none) := ⟨_, rfl⟩
    have h6 : X.heap[w.heap.size + 2]? = some (.cells #[.bool false] 4 (0, 0)) := by
      rw [hX]
      exact (World.putObj_heap_other (by omega)).trans c5
    have hb6 : Below w.heap.size w X := by
      rw [hX]
      exact bW.trans ((Same.putObj (keep := (· ≠ V.heap.size)) (Same.refl _ _) _ (by simp)).below bW.size (fun j hj => by omega))
    rw [← hX]
    refine ⟨.bool false, ?_, by rw [HVV.out], hb6⟩
    have q := (box_cell h6).1
    simp [results, Tryd.f17, go_sem, q]
theorem valid_any (n₀ : Nat) (t : Dl.T) (ev : Int) (w : World) (ht : TIn n₀ w t) (hn : n₀ ≤ w.heap.size) :
    Calls Tryd.prog 17 #[TV t, .int .i64 ev] w fun e w' => e = .returned (.bool (validT t ev)) ∧ Below w.heap.size w w' := by
  unfold validT
  cases h : (decide (0 ≤ ev) && decide (ev ≤ 1000)) with
  | false =>
    rw [Bool.false_and]
    exact valid_out t ev w h
  | true =>
    rw [Bool.true_and]
    simp only [Bool.and_eq_true, decide_eq_true_eq] at h
    exact valid_in n₀ t ev w ht hn h.1 h.2
end Go.Proofs.YtlbfnafniobnaaaDoor

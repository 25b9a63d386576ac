/- The walk of zone.find. -/
import Derived.Test.YtcacmigfpahicaaZnB
import Derived.Shelf.Abstract
namespace Go.Proofs.Ytcacmigfpahicaa
open Go.RowKit Go.Shelf
attribute [local go_sem] Oper.semAt_some

theorem heap_new {w : World} {o : Obj} {n : Nat} (h : n = w.heap.size) : (w.alloc o).heap[n]? = some o := by rw [h]; exact World.alloc_heap_new w o
theorem find_results {X : World} {b c : Nat} {f t u v : Int} {x : Bool} (h2 : X.heap[b]? = some (.cells #[.int .i64 f, .int .i64 t, .int .i64 u, .int .i64 v] 49 (0, 0))) (h3 : X.heap[c]? = some (.cells #[.bool x] 4 (0, 0)))
    (a0 a1 a2 a3 a6 a7 a8 a9 a10 a11 a12 a13 a14 : Value) :
    (results Try.f24 #[a0, a1, a2, a3, .pointer (some ⟨b, 0, none⟩), .pointer (some ⟨c, 0, none⟩), a6, a7, a8, a9, a10, a11, a12, a13, a14]).run Try.prog X = .ok (.tuple #[.agg #[.int .i64 f, .int .i64 t, .int .i64 u, .int .i64 v], .bool x]) X := by
  have c0 : X.cell? ⟨b, 0, none⟩ = some (.int .i64 f) := by simp [World.cell?, h2]
  have c1 : X.cell? ⟨b, 1, none⟩ = some (.int .i64 t) := by simp [World.cell?, h2]
  have c2 : X.cell? ⟨b, 2, none⟩ = some (.int .i64 u) := by simp [World.cell?, h2]
  have c3 : X.cell? ⟨b, 3, none⟩ = some (.int .i64 v) := by simp [World.cell?, h2]
  have c4 : X.cell? ⟨c, 0, none⟩ = some (.bool x) := by simp [World.cell?, h3]
  simp [results, Try.f24, go_sem, c0, c1, c2, c3, c4]
set_option maxRecDepth 100000 in
set_option maxHeartbeats 2000000 in
theorem find_calls (o : Int) (p : Option Addr) (cs : List (Int × Int)) (cap : Nat) (g : Nat) (lb : Array Value) (pr : Nat → Bool) (r : Nat) (w : World) (hlen : cs.length ≤ 100) (hch : Chg w p cs)
    (eg : ∀ args w, (callFunc g args).run Try.prog w = .ok (.enter g args) w)
    (hcall : ∀ k W, k ≤ cs.length → Below w.heap.size w W → Calls Try.prog g (#[strV o cs k] ++ lb) W fun e W' => e = .returned (.bool (pr k)) ∧ Below W.heap.size W W')
    (hr0 : ∀ j, j < r → j ≤ cs.length → pr j = false) (hr : r ≤ cs.length → pr r = true) (res : Value)
    (hs1 : r ≤ cs.length → res = .tuple #[strV o cs r, .bool true]) (hs0 : ¬ r ≤ cs.length → res = .tuple #[.agg #[.int .i64 0, .int .i64 0, .int .i64 0, .int .i64 0], .bool false]) :
    Calls Try.prog 24 #[.agg #[.int .i64 o, .slice p cs.length cap], .func (.func g) #[] lb] w fun e W' =>
      e = .returned res ∧ Below w.heap.size w W' := by
  refine (callsIn_wide (n := 3)).1 ?_
  refine callsIn_of_wp_marks Try.func24 rfl trivial ?_ rfl
  simp only [Try.ntmps24, List.size_toArray, List.length_cons, List.length_nil, Nat.reduceAdd, Nat.reduceSub, Array.replicate_succ, Array.replicate_zero, List.push_toArray, List.append_toArray, List.nil_append, List.cons_append]
  have HC := Lib.hid hcall
  have HR0 := Lib.hid hr0
  have HR := Lib.hid hr
  have HCH := Lib.hid hch
  have HPW := Lib.hid hch.lt
  have HS1 := Lib.hid hs1
  have HS0 := Lib.hid hs0
  clear hcall hr0 hr hch hs1 hs0
  gi_wp2_with (refine ⟨trivial, ?_⟩; gi_at_call 32; refine (callsIn_wide.2 (stretches_calls o p cs.length cap _)).mono ?_; rintro e w' ⟨rfl, rfl⟩)
  have ez : w.heap.size + 1 + 1 + 1 + 1 = w.heap.size + 4 := rfl
  obtain ⟨V, hV⟩ : ∃ V, V = (((((w.alloc (.cells #[.int .i64 o, .slice p cs.length cap] 24)).alloc (.cells #[.func (.func g) #[] lb] 52)).alloc (.cells #[.int .i64 0, .int .i64 0, .int .i64 0, .int .i64 0] 49)).alloc (.cells #[.bool false] 4)).alloc (.cells #[.int .i64 o, .slice p cs.length cap] 24)) := ⟨_, rfl⟩
  have zV : V.heap.size = w.heap.size + 5 := by rw [hV]; simp
  have bV : Below w.heap.size w V := by rw [hV]; exact (by repeat (first | exact Below.refl _ _ | assumption | refine below_drewN ?_ _ | refine Below.setCell ?_ (by first | (simp; done) | (simp; omega)) _ | refine Below.alloc ?_ (by first | (simp; done) | (simp; omega) | omega) _ | refine Below.drew ?_ | refine Below.trans ?_ (Below.mono (by assumption) (by first | (simp; done) | (simp; omega) | omega))))
  have v1 : V.heap[w.heap.size + 1]? = some (.cells #[.func (.func g) #[] lb] 52 (0, 0)) := by rw [hV]; repeat (first | exact heap_new (by simp) | refine (Below.heap_alloc _ _ _ (by simp)).trans ?_)
  have v2 : V.heap[w.heap.size + 2]? = some (.cells #[.int .i64 0, .int .i64 0, .int .i64 0, .int .i64 0] 49 (0, 0)) := by rw [hV]; repeat (first | exact heap_new (by simp) | refine (Below.heap_alloc _ _ _ (by simp)).trans ?_)
  have v3 : V.heap[w.heap.size + 3]? = some (.cells #[.bool false] 4 (0, 0)) := by rw [hV]; repeat (first | exact heap_new (by simp) | refine (Below.heap_alloc _ _ _ (by simp)).trans ?_)
  have v4 : V.heap[w.heap.size + 4]? = some (.cells #[.int .i64 o, .slice p cs.length cap] 24 (0, 0)) := by rw [hV]; repeat (first | exact heap_new (by simp) | refine (Below.heap_alloc _ _ _ (by simp)).trans ?_)
  rw [← hV]
  clear hV
  refine wpIn_range_own (F := Fence.wide) rfl (by omega) (gf := 34) (lb := #[.pointer (some ⟨w.heap.size + 1 + 1 + 1 + 1, 0, none⟩)]) rfl trivial (enters_of Try.func34 (by kernel_rfl) rfl)
    (enc := fun k => #[strV o cs k]) (N := cs.length + 1) (q := w.heap.size)
    (iter_in Fence.wide _ trivial rfl (by omega) o p cs cap (w.heap.size + 4) w.heap.size V hlen (by omega) (by omega) (HCH.out.below bV) (fun x hx hne => by have := HPW.out x hx hne; omega) (by simp [World.cell?, v4]) (by simp [World.cell?, v4]))
    (fun _ => rfl) (by omega)
    (fun k W => (∀ j, j < k → pr j = false) ∧ Same (fun j => j < V.heap.size) V W)
    (fun k W => ((∀ j, j < k → pr j = false) ∧ pr k = true) ∧ W.heap[w.heap.size + 2]? = some (.cells #[.int .i64 (Zn.frmL 0 cs k), .int .i64 (Zn.upto cs k), .int .i64 (Zn.bef o cs k), .int .i64 (Zn.offs o cs k)] 49 (0, 0)) ∧ W.heap[w.heap.size + 3]? = some (.cells #[.bool true] 4 (0, 0)) ∧ Below w.heap.size w W)
    (fun k W W' h hs _ => ⟨h.1, h.2.trans (hs.mono (fun j _ hj => by omega))⟩)
    (fun k W W' h hs _ => ⟨h.1, hs.heap h.2.1 (by omega), hs.heap h.2.2.1 (by omega), h.2.2.2.trans (hs.below h.2.2.2.size (fun j hj => by omega))⟩)
    (fun a b => ⟨fun j hj => by omega, ((Same.refl _ _).alloc _).alloc _⟩)
    (fun k => .cells #[.int .i64 (Zn.frmL 0 cs k), .int .i64 (Zn.upto cs k), .int .i64 (Zn.bef o cs k), .int .i64 (Zn.offs o cs k)] 49)
    (fun s k => { tmps := #[.agg #[.int .i64 o, .slice p cs.length cap], .func (.func g) #[] lb, .pointer (some ⟨w.heap.size, 0, none⟩), .pointer (some ⟨w.heap.size + 1, 0, none⟩), .pointer (some ⟨w.heap.size + 1 + 1, 0, none⟩), .pointer (some ⟨w.heap.size + 1 + 1 + 1, 0, none⟩), .pointer (some ⟨s, 0, none⟩),
      .agg #[.int .i64 o, .slice p cs.length cap], .func (.func 34) #[] #[.pointer (some ⟨w.heap.size + 1 + 1 + 1 + 1, 0, none⟩)], strV o cs k, undef, undef, undef, undef, undef], defers := [] }) ?assign ?body ?done ?stop
  case assign =>
    intro l k W K hk hK
    simp only [strV] at hK ⊢
    gi_wp2
    exact hK
  case body =>
    rintro l k W0 W1 W2 hk ⟨hpr, hsV⟩ hsz s01 s12 z2 ho2
    have sV : Same (fun j => j < V.heap.size) V W2 := ((hsV.trans (s01.mono (fun j _ hj => by omega))).alloc _).trans (s12.mono (fun j _ hj => by omega))
    have b2 : Below w.heap.size w W2 := bV.trans (sV.below bV.size (fun j hj => by omega))
    have c1 := sV.heap v1 (by omega)
    have d1 : W2.cell? ⟨w.heap.size + 1, 0, none⟩ = some (.func (.func g) #[] lb) := by simp [World.cell?, c1]
    have d2 : W2.cell? ⟨W1.heap.size, 0, none⟩ = some (.int .i64 (Zn.frmL 0 cs k)) := by simp [World.cell?, ho2]
    have d3 : W2.cell? ⟨W1.heap.size, 1, none⟩ = some (.int .i64 (Zn.upto cs k)) := by simp [World.cell?, ho2]
    have d4 : W2.cell? ⟨W1.heap.size, 2, none⟩ = some (.int .i64 (Zn.bef o cs k)) := by simp [World.cell?, ho2]
    have d5 : W2.cell? ⟨W1.heap.size, 3, none⟩ = some (.int .i64 (Zn.offs o cs k)) := by simp [World.cell?, ho2]
    have hC := HC.out k W2 (by omega) b2
    rw [strV] at hC
    have hz2 : w.heap.size + 5 < W2.heap.size := by have := s01.size; omega
    have g2 := sV.heap v2 (by omega)
    have g3 := sV.heap v3 (by omega)
    cases hp : pr k with
    | true =>
      rw [hp] at hC
      have HD := Lib.hid hC
      have HG2 := Lib.hid g2
      have HG3 := Lib.hid g3
      have HSV := Lib.hid sV
      have HBW := Lib.hid b2
      have HPR0 := Lib.hid hpr
      clear hC g2 g3 sV b2 c1 v1 v2 v3 v4 s01 s12 hpr hsV ho2
      gi_wp2
      refine ⟨trivial, ?_⟩
      refine (CallsIn.inRound l (callsIn_wide.2 HD.out)).mono ?_
      rintro e W3 ⟨rfl, hb3⟩
      have x0 := cell_keep hb3 d2
      have x1 := cell_keep hb3 d3
      have x2 := cell_keep hb3 d4
      have x3 := cell_keep hb3 d5
      have c2 := (hb3.block _ (by omega)).trans HG2.out
      have c3 := (hb3.block _ (by omega)).trans HG3.out
      have y0 : W3.cell? ⟨w.heap.size + 2, 0, none⟩ = some (.int .i64 0) := by simp [World.cell?, c2]
      have z0 : W3.frozen? ⟨w.heap.size + 2, 0, none⟩ = false := by simp [World.frozen?, c2]
      have y1 : W3.cell? ⟨w.heap.size + 2, 1, none⟩ = some (.int .i64 0) := by simp [World.cell?, c2]
      have z1 : W3.frozen? ⟨w.heap.size + 2, 1, none⟩ = false := by simp [World.frozen?, c2]
      have y2 : W3.cell? ⟨w.heap.size + 2, 2, none⟩ = some (.int .i64 0) := by simp [World.cell?, c2]
      have z2 : W3.frozen? ⟨w.heap.size + 2, 2, none⟩ = false := by simp [World.frozen?, c2]
      have y3 : W3.cell? ⟨w.heap.size + 2, 3, none⟩ = some (.int .i64 0) := by simp [World.cell?, c2]
      have z3 : W3.frozen? ⟨w.heap.size + 2, 3, none⟩ = false := by simp [World.frozen?, c2]
      have y4 : W3.cell? ⟨w.heap.size + 3, 0, none⟩ = some (.bool false) := by simp [World.cell?, c3]
      have z4 : W3.frozen? ⟨w.heap.size + 3, 0, none⟩ = false := by simp [World.frozen?, c3]
      have HB3 := Lib.hid hb3
      have HC2 := Lib.hid c2
      have HC3 := Lib.hid c3
      clear c2 c3 hb3
      gi_wp2
      refine ⟨?_, ⟨HPR0.out, hp⟩, ?_, ?_, ?_⟩
      · repeat (first | exact Same.of_below HB3.out | refine Same.setCell ?_ _ (by simp; omega))
      · exact (Below.heap_setCell _ _ _ _ (by simp)).trans (setCell_row (setCell_row (setCell_row (setCell_row HC2.out))))
      · exact setCell_row ((Below.heap_setCell _ _ _ _ (by simp)).trans ((Below.heap_setCell _ _ _ _ (by simp)).trans ((Below.heap_setCell _ _ _ _ (by simp)).trans ((Below.heap_setCell _ _ _ _ (by simp)).trans HC3.out))))
      · have q0 := HBW.out.trans (HB3.out.mono HBW.out.size)
        repeat (first | exact q0 | refine Below.setCell ?_ (by simp; omega) _)
    | false =>
      rw [hp] at hC
      have HD := Lib.hid hC
      have HSV := Lib.hid sV
      have HPR := Lib.hid hpr
      clear hC g2 g3 sV b2 c1 v1 v2 v3 v4 s01 s12 hpr hsV ho2
      gi_wp2
      refine ⟨trivial, ?_⟩
      refine (CallsIn.inRound l (callsIn_wide.2 HD.out)).mono ?_
      rintro e W3 ⟨rfl, hb3⟩
      gi_wp2
      refine ⟨Same.of_below hb3, fun j hj => ?_, HSV.out.trans (Same.of_below hb3)⟩
      by_cases hjk : j = k
      · rw [hjk]; exact hp
      · exact HPR.out j (by omega)
  case done =>
    rintro W0 W ⟨hpr, hs⟩ s0 hd
    have sW : Same (fun j => j < V.heap.size) V W := hs.trans (s0.mono (fun j _ hj => ⟨by omega, by omega⟩))
    have c2 := sW.heap v2 (by omega)
    have c3 := sW.heap v3 (by omega)
    have hbW : Below w.heap.size w W := bV.trans (sW.below bV.size (fun j hj => by omega))
    have y0 : W.cell? ⟨w.heap.size + 2, 0, none⟩ = some (.int .i64 0) := by simp [World.cell?, c2]
    have z0 : W.frozen? ⟨w.heap.size + 2, 0, none⟩ = false := by simp [World.frozen?, c2]
    have y1 : W.cell? ⟨w.heap.size + 2, 1, none⟩ = some (.int .i64 0) := by simp [World.cell?, c2]
    have z1 : W.frozen? ⟨w.heap.size + 2, 1, none⟩ = false := by simp [World.frozen?, c2]
    have y2 : W.cell? ⟨w.heap.size + 2, 2, none⟩ = some (.int .i64 0) := by simp [World.cell?, c2]
    have z2 : W.frozen? ⟨w.heap.size + 2, 2, none⟩ = false := by simp [World.frozen?, c2]
    have y3 : W.cell? ⟨w.heap.size + 2, 3, none⟩ = some (.int .i64 0) := by simp [World.cell?, c2]
    have z3 : W.frozen? ⟨w.heap.size + 2, 3, none⟩ = false := by simp [World.frozen?, c2]
    have y4 : W.cell? ⟨w.heap.size + 3, 0, none⟩ = some (.bool false) := by simp [World.cell?, c3]
    have z4 : W.frozen? ⟨w.heap.size + 3, 0, none⟩ = false := by simp [World.frozen?, c3]
    have HD := Lib.hid hd
    have HC2 := Lib.hid c2
    have HC3 := Lib.hid c3
    have HBW := Lib.hid hbW
    have HPR := Lib.hid hpr
    rw [zV] at HD ⊢
    clear hd c2 c3 hbW hpr sW hs s0 v1 v2 v3 v4
    gi_wp2
    have hD : ((((((W.setCell ⟨w.heap.size + 2, 0, none⟩ (.int .i64 0)).setCell ⟨w.heap.size + 2, 1, none⟩ (.int .i64 0)).setCell ⟨w.heap.size + 2, 2, none⟩ (.int .i64 0)).setCell ⟨w.heap.size + 2, 3, none⟩ (.int .i64 0)).setCell ⟨w.heap.size + 3, 0, none⟩ (.bool false)).heap[w.heap.size + 5]? = some (.deferred (some []))) :=
      (Below.heap_setCell _ _ _ _ (by simp)).trans ((Below.heap_setCell _ _ _ _ (by simp)).trans ((Below.heap_setCell _ _ _ _ (by simp)).trans ((Below.heap_setCell _ _ _ _ (by simp)).trans ((Below.heap_setCell _ _ _ _ (by simp)).trans HD.out))))
    refine ⟨by simp, .inl ⟨_, _, rfl, run_takeDeferred hD, ?_⟩⟩
    have hnr : ¬ r ≤ cs.length := fun h => by
      have := HR.out h
      rw [HPR.out r (by omega)] at this
      cases this
    refine ⟨res, ?_, rfl, ?_⟩
    · rw [HS0.out hnr]
      obtain ⟨X, hX⟩ : ∃ X, (((((W.setCell ⟨w.heap.size + 2, 0, none⟩ (.int .i64 0)).setCell ⟨w.heap.size + 2, 1, none⟩ (.int .i64 0)).setCell ⟨w.heap.size + 2, 2, none⟩ (.int .i64 0)).setCell ⟨w.heap.size + 2, 3, none⟩ (.int .i64 0)).setCell ⟨w.heap.size + 3, 0, none⟩ (.bool false)).putObj (w.heap.size + 5) (.deferred none) = X := ⟨_, rfl⟩
      have e2 : X.heap[w.heap.size + 2]? = some (.cells #[.int .i64 0, .int .i64 0, .int .i64 0, .int .i64 0] 49 (0, 0)) := by
        rw [← hX]
        exact (World.putObj_heap_other (by omega)).trans ((Below.heap_setCell _ _ _ _ (by simp)).trans (setCell_row (setCell_row (setCell_row (setCell_row HC2.out)))))
      have e3 : X.heap[w.heap.size + 3]? = some (.cells #[.bool false] 4 (0, 0)) := by
        rw [← hX]
        exact (World.putObj_heap_other (by omega)).trans (setCell_row ((Below.heap_setCell _ _ _ _ (by simp)).trans ((Below.heap_setCell _ _ _ _ (by simp)).trans ((Below.heap_setCell _ _ _ _ (by simp)).trans ((Below.heap_setCell _ _ _ _ (by simp)).trans HC3.out)))))
      rw [hX]
      exact find_results e2 e3 _ _ _ _ _ _ _ _ _ _ _ _ _
    · have q0 := HBW.out
      have q1 : Below w.heap.size w ((((((W.setCell ⟨w.heap.size + 2, 0, none⟩ (.int .i64 0)).setCell ⟨w.heap.size + 2, 1, none⟩ (.int .i64 0)).setCell ⟨w.heap.size + 2, 2, none⟩ (.int .i64 0)).setCell ⟨w.heap.size + 2, 3, none⟩ (.int .i64 0)).setCell ⟨w.heap.size + 3, 0, none⟩ (.bool false))) := by
        repeat (first | exact q0 | refine Below.setCell ?_ (by simp) _)
      exact q1.trans ((Same.putObj (keep := (· ≠ w.heap.size + 5)) (Same.refl _ _) _ (by simp)).below q1.size (fun j hj => by omega))
  case stop =>
    rintro k W0 W hk ⟨⟨hpr, hp⟩, h2, h3, hb⟩ s0 hd
    have c2 := s0.heap h2 ⟨by omega, by omega⟩
    have c3 := s0.heap h3 ⟨by omega, by omega⟩
    have hbW : Below w.heap.size w W := hb.trans (s0.below hb.size (fun j hj => ⟨by omega, by omega⟩))
    rw [zV] at hd ⊢
    gi_wp2
    refine ⟨by simp, .inl ⟨_, _, rfl, run_takeDeferred hd, ?_⟩⟩
    obtain rfl : k = r := by
      rcases Nat.lt_trichotomy k r with h | h | h
      · rw [HR0.out k h (by omega)] at hp; cases hp
      · exact h
      · have := HR.out (by omega); rw [hpr r h] at this; cases this
    have sP : Same (· ≠ w.heap.size + 5) W (W.putObj (w.heap.size + 5) (.deferred none)) := (Same.refl _ _).putObj _ (by simp)
    have e2 := sP.heap c2 (by omega)
    have e3 := sP.heap c3 (by omega)
    refine ⟨res, ?_, rfl, hbW.trans (sP.below hbW.size (fun j hj => by omega))⟩
    rw [HS1.out (by omega)]
    obtain ⟨X, hX⟩ : ∃ X, W.putObj (w.heap.size + 5) (.deferred none) = X := ⟨_, rfl⟩
    rw [hX] at e2 e3 ⊢
    simp only [strV]
    exact find_results e2 e3 _ _ _ _ _ _ _ _ _ _ _ _ _
end Go.Proofs.Ytcacmigfpahicaa

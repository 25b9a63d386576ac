/- The walk of zone.Instants. -/
import Derived.Test.YtcacmigfpahicaaZnC
import Derived.Test.YtcacmigfpahicaaZnD
import Derived.OwnWalkIn
import Derived.Maps.AppendAt
namespace Go.Proofs.Ytcacmigfpahicaa
open Go.RowKit Go.Shelf
attribute [local go_sem] Oper.semAt_some

/-- a list of numbers, as it lies in memory -/
def IntsAt (w : World) (v : Value) (xs : List Int) : Prop :=
  ∃ q cap, v = .slice q xs.length cap ∧ (xs = [] ∨ ∃ b, q = some ⟨b, 0, none⟩ ∧ ∀ j, j < xs.length → w.cell? ⟨b, j, none⟩ = some (.int .i64 (xs.getD j 0)))
theorem IntsAt.below {w w' : World} {v : Value} {xs : List Int} (h : IntsAt w v xs) (hb : Below w.heap.size w w') : IntsAt w' v xs := by
  obtain ⟨q, cap, hv, h⟩ := h
  refine ⟨q, cap, hv, ?_⟩
  rcases h with h | ⟨b, hq, h⟩
  · exact .inl h
  · exact .inr ⟨b, hq, fun j hj => cell_keep hb (h j hj)⟩
theorem intsAt_nil (w : World) : IntsAt w (.slice none 0 0) [] := ⟨none, 0, rfl, .inl rfl⟩
theorem info_int : (Try.prog.info? 3).map (fun i => (i.zero, i.size, i.bytes)) = some (some (.int .i64 0), 1, 8) := by kernel_rfl
theorem intsAt_of_owns {w : World} {base : Nat} {v : Value} {xs : List Int} (h : w.ownsRow base 3 1 v xs.length (xs.map (Value.int .i64))) : IntsAt w v xs := by
  rcases h.2 with ⟨hv, h0⟩ | ⟨g, cap, cur, hv, _, hg, _, _, _, ht⟩
  · exact ⟨none, 0, by rw [hv, h0], .inl (List.length_eq_zero_iff.1 h0)⟩
  · refine ⟨_, cap, hv, .inr ⟨g, rfl, fun j hj => ?_⟩⟩
    have e : cur.toList[j]? = some (.int .i64 (xs.getD j 0)) := by
      have e1 : (cur.toList.take (xs.length * 1))[j]? = (xs.map (Value.int .i64))[j]? := by rw [ht]
      rw [List.getElem?_take, if_pos (by omega), List.getElem?_map] at e1
      rw [e1]
      simp [hj]
    have e2 : cur[j]? = some (.int .i64 (xs.getD j 0)) := by rw [← e]; simp
    simp only [World.cell?, hg]
    simpa using e2
theorem valid_yes {o : Int} {p : Option Addr} {cs : List (Int × Int)} {cap : Nat} {w : World} (hch : Chg w p cs) (h : Zn.Ok o cs) :
    Calls Try.prog 17 #[.agg #[.int .i64 o, .slice p cs.length cap]] w fun e w' => e = .returned (.bool true) ∧ Below w.heap.size w w' := by
  have := valid_calls o p cs cap w hch
  rwa [decide_eq_true h] at this
theorem valid_no {o : Int} {p : Option Addr} {cs : List (Int × Int)} {cap : Nat} {w : World} (hch : Chg w p cs) (h : ¬ Zn.Ok o cs) :
    Calls Try.prog 17 #[.agg #[.int .i64 o, .slice p cs.length cap]] w fun e w' => e = .returned (.bool false) ∧ Below w.heap.size w w' := by
  have := valid_calls o p cs cap w hch
  rwa [decide_eq_false h] at this

theorem instants_bad (o : Int) (p : Option Addr) (cs : List (Int × Int)) (cap : Nat) (d m : Int) (w : World) (hch : Chg w p cs) (h : ¬ Zn.Ok o cs) :
    Calls Try.prog 20 #[.agg #[.int .i64 o, .slice p cs.length cap], .int .i64 d, .int .i64 m] w fun e w' => e = .returned (.slice none 0 0) ∧ Below w.heap.size w w' := by
  have HC := Lib.hid hch
  have H := Lib.hid h
  clear hch h
  go_enter Try.func20, Try.ntmps20
  go_wp2_with (go_at_call 17; refine (valid_no (HC.out.below (by repeat (first | exact Below.refl _ _ | assumption | refine below_drewN ?_ _ | refine Below.setCell ?_ (by first | (simp; done) | (simp; omega)) _ | refine Below.alloc ?_ (by first | (simp; done) | (simp; omega) | omega) _ | refine Below.drew ?_ | refine Below.trans ?_ (Below.mono (by assumption) (by first | (simp; done) | (simp; omega) | omega))))) H.out).mono ?_; rintro e w' ⟨rfl, hb⟩)
  go_ret
  exact ⟨rfl, (by repeat (first | exact Below.refl _ _ | assumption | refine below_drewN ?_ _ | refine Below.setCell ?_ (by first | (simp; done) | (simp; omega)) _ | refine Below.alloc ?_ (by first | (simp; done) | (simp; omega) | omega) _ | refine Below.drew ?_ | refine Below.trans ?_ (Below.mono (by assumption) (by first | (simp; done) | (simp; omega) | omega))))⟩
theorem instants_far (o : Int) (p : Option Addr) (cs : List (Int × Int)) (cap : Nat) (d m : Int) (w : World) (hch : Chg w p cs) (h : Zn.Ok o cs) (hl : ¬ (0 ≤ d ∧ d ≤ 73048 ∧ 0 ≤ m ∧ m ≤ 1439)) :
    Calls Try.prog 20 #[.agg #[.int .i64 o, .slice p cs.length cap], .int .i64 d, .int .i64 m] w fun e w' => e = .returned (.slice none 0 0) ∧ Below w.heap.size w w' := by
  have HC := Lib.hid hch
  have H := Lib.hid h
  have HL := Lib.hid hl
  clear hch h hl
  go_enter Try.func20, Try.ntmps20
  go_wp2_with (first | (go_at_call 17; refine (valid_yes (HC.out.below (by repeat (first | exact Below.refl _ _ | assumption | refine below_drewN ?_ _ | refine Below.setCell ?_ (by first | (simp; done) | (simp; omega)) _ | refine Below.alloc ?_ (by first | (simp; done) | (simp; omega) | omega) _ | refine Below.drew ?_ | refine Below.trans ?_ (Below.mono (by assumption) (by first | (simp; done) | (simp; omega) | omega))))) H.out).mono ?_; rintro e w' ⟨rfl, hb⟩) | (go_at_call 28; refine (isLocal_no _ _ _ HL.out).mono ?_; rintro e w'' ⟨rfl, rfl⟩))
  go_ret
  exact ⟨rfl, (by repeat (first | exact Below.refl _ _ | assumption | refine below_drewN ?_ _ | refine Below.setCell ?_ (by first | (simp; done) | (simp; omega)) _ | refine Below.alloc ?_ (by first | (simp; done) | (simp; omega) | omega) _ | refine Below.drew ?_ | refine Below.trans ?_ (Below.mono (by assumption) (by first | (simp; done) | (simp; omega) | omega))))⟩

theorem same_grown {A B : World} {r : Nat} (h : Same (· ≠ r) A B) : A.grownBy B (some r) := ⟨h.os, h.tape, h.output, h.size, fun k hk hne => h.block k hk (fun e => hne (by rw [e]))⟩
theorem own_block {w : World} {base : Nat} {e : TypeId} {size : Nat} {v : Value} {n : Nat} {xs : List Value} (h : w.ownsRow base e size v n xs) {g : Nat} (hg : v.ownBlock = some g) : base ≤ g ∧ g < w.heap.size := by
  rcases h.2 with ⟨rfl, _⟩ | ⟨g', cap, cur, rfl, hb, hgg, _⟩
  · simp [Value.ownBlock] at hg
  · simp only [Value.ownBlock, Option.some.injEq] at hg
    subst hg
    exact ⟨hb, (Array.getElem?_eq_some_iff.1 hgg).1⟩
theorem own_same {A B : World} {keep : Nat → Prop} {base : Nat} {e : TypeId} {size : Nat} {v : Value} {n : Nat} {xs : List Value} (h : A.ownsRow base e size v n xs) (hs : Same keep A B) (hk : ∀ g, base ≤ g → g < A.heap.size → keep g) : B.ownsRow base e size v n xs := by
  refine ⟨h.1, ?_⟩
  rcases h.2 with hn | ⟨g, cap, cur, rfl, hb, hgg, rest⟩
  · exact .inl hn
  · exact .inr ⟨g, cap, cur, rfl, hb, hs.heap hgg (hk g hb (Array.getElem?_eq_some_iff.1 hgg).1), rest⟩
theorem boxed_same {A B : World} {keep : Nat → Prop} {b : Nat} {t : TypeId} {v : Value} (h : Boxed A b t v) (hs : Same keep A B) (hk : keep b) : Boxed B b t v := hs.heap h hk
set_option maxRecDepth 100000 in
set_option maxHeartbeats 2000000 in
theorem instants_good (o : Int) (p : Option Addr) (cs : List (Int × Int)) (cap : Nat) (d m : Int) (w : World) (hch : Chg w p cs) (h : Zn.Ok o cs) (hl : 0 ≤ d ∧ d ≤ 73048 ∧ 0 ≤ m ∧ m ≤ 1439) :
    Calls Try.prog 20 #[.agg #[.int .i64 o, .slice p cs.length cap], .int .i64 d, .int .i64 m] w fun e w' => ∃ v, e = .returned v ∧ IntsAt w' v (Zn.inst 0 o cs (d * 1440 + m)) ∧ Below w.heap.size w w' := by
  obtain ⟨i0, hi, hz0, hz1, hz2⟩ := info_parts info_int
  refine (callsIn_wide (n := 3)).1 ?_
  refine callsIn_of_wp_marks Try.func20 rfl trivial ?_ rfl
  simp only [Try.ntmps20, List.size_toArray, List.length_cons, List.length_nil, Nat.reduceAdd, Nat.reduceSub, Array.replicate_succ, Array.replicate_zero, List.push_toArray, List.append_toArray, List.nil_append, List.cons_append]
  have HC := Lib.hid hch
  have H := Lib.hid h
  have HL := Lib.hid hl
  have HZ := Lib.hid (And.intro hi (And.intro hz0 (And.intro hz1 hz2)))
  have w1 : wrap64 (d * 1440) = d * 1440 := by unfold wrap64; omega
  have w2 : wrap64 (d * 1440 + m) = d * 1440 + m := by unfold wrap64; omega
  have hlen : cs.length ≤ 40 := h.2.2.1
  clear hch h hl hi hz0 hz1 hz2
  gi_wp2
  refine ⟨trivial, ?_⟩
  refine (callsIn_wide.2 (valid_yes (HC.out.below (by repeat (first | exact Below.refl _ _ | assumption | refine below_drewN ?_ _ | refine Below.setCell ?_ (by first | (simp; done) | (simp; omega)) _ | refine Below.alloc ?_ (by first | (simp; done) | (simp; omega) | omega) _ | refine Below.drew ?_ | refine Below.trans ?_ (Below.mono (by assumption) (by first | (simp; done) | (simp; omega) | omega))))) H.out)).mono ?_
  rintro e wv ⟨rfl, hb⟩
  have hzv := hb.size
  (try simp at hzv)
  have f0 : wv.cell? ⟨w.heap.size, 0, none⟩ = some (.int .i64 o) := cell_keep hb (by go_simp)
  have f1 : wv.cell? ⟨w.heap.size, 1, none⟩ = some (.slice p cs.length cap) := cell_keep hb (by go_simp)
  have hbw : Below w.heap.size w wv := (by repeat (first | exact Below.refl _ _ | assumption | refine below_drewN ?_ _ | refine Below.setCell ?_ (by first | (simp; done) | (simp; omega)) _ | refine Below.alloc ?_ (by first | (simp; done) | (simp; omega) | omega) _ | refine Below.drew ?_ | refine Below.trans ?_ (Below.mono (by assumption) (by first | (simp; done) | (simp; omega) | omega))))
  have HB := Lib.hid hbw
  have l0 : w.heap.size < wv.heap.size := by omega
  have l1 : w.heap.size < wv.heap.size + 1 := by omega
  have l2 : w.heap.size < wv.heap.size + 1 + 1 := by omega
  clear hb hbw
  gi_wp2
  refine ⟨trivial, ?_⟩
  refine (callsIn_wide.2 (isLocal_yes _ _ _ HL.out)).mono ?_
  rintro e wv' ⟨rfl, rfl⟩
  gi_wp2
  refine ⟨trivial, ?_⟩
  refine (callsIn_wide.2 (stretches_calls o p cs.length cap _)).mono ?_
  rintro e w' ⟨rfl, rfl⟩
  gi_wp2
  have hbw := HB.out
  obtain ⟨L, hL⟩ : ∃ L, L = d * 1440 + m := ⟨_, rfl⟩
  obtain ⟨V, hV⟩ : ∃ V, V = ((wv.alloc (.cells #[.int .i64 L] 3)).alloc (.cells #[.slice none 0 0] 33)).alloc (.cells #[.int .i64 o, .slice p cs.length cap] 24) := ⟨_, rfl⟩
  have zV : V.heap.size = wv.heap.size + 3 := by rw [hV]; simp
  have bV : Below wv.heap.size wv V := by rw [hV]; exact (by repeat (first | exact Below.refl _ _ | assumption | refine below_drewN ?_ _ | refine Below.setCell ?_ (by first | (simp; done) | (simp; omega)) _ | refine Below.alloc ?_ (by first | (simp; done) | (simp; omega) | omega) _ | refine Below.drew ?_ | refine Below.trans ?_ (Below.mono (by assumption) (by first | (simp; done) | (simp; omega) | omega))))
  have bwV : Below w.heap.size w V := hbw.trans (bV.mono hbw.size)
  have v1 : V.heap[wv.heap.size]? = some (.cells #[.int .i64 L] 3 (0, 0)) := by rw [hV]; repeat (first | exact heap_new (by simp) | refine (Below.heap_alloc _ _ _ (by first | (simp; done) | (simp; omega))).trans ?_)
  have v2 : Boxed V (wv.heap.size + 1) 33 (.slice none 0 0) := by show V.heap[_]? = _; rw [hV]; repeat (first | exact heap_new (by simp) | refine (Below.heap_alloc _ _ _ (by first | (simp; done) | (simp; omega))).trans ?_)
  have v4 : V.heap[wv.heap.size + 2]? = some (.cells #[.int .i64 o, .slice p cs.length cap] 24 (0, 0)) := by rw [hV]; repeat (first | exact heap_new (by simp) | refine (Below.heap_alloc _ _ _ (by first | (simp; done) | (simp; omega))).trans ?_)
  rw [← hL] at w2 ⊢
  rw [← hV]
  have HLL := Lib.hid hL
  have hLb : -2000 ≤ L ∧ L ≤ 200000000 := by have := HL.out; omega
  clear hV f0 f1 hL w1 w2
  have hpw := HC.out.lt
  refine wpIn_range_own (F := Fence.wide) rfl (by omega) (gf := 34) (lb := #[.pointer (some ⟨wv.heap.size + 1 + 1, 0, none⟩)]) rfl trivial (enters_of Try.func34 (by kernel_rfl) rfl)
    (enc := fun k => #[strV o cs k]) (N := cs.length + 1) (q := wv.heap.size + 1)
    (iter_in Fence.wide _ trivial rfl (by omega) o p cs cap (wv.heap.size + 2) (wv.heap.size + 1) V (by omega) (by omega) (by omega) (HC.out.below bwV) (fun x hx hne => by have := hpw x hx hne; omega) (by simp [World.cell?, v4]) (by simp [World.cell?, v4]))
    (fun _ => rfl) (by omega)
    (fun k W => (∃ v, Boxed W (wv.heap.size + 1) 33 v ∧ W.ownsRow (V.heap.size + 3) 3 1 v (Zn.instTo 0 o cs L k).length ((Zn.instTo 0 o cs L k).map (Value.int .i64))) ∧ Same (fun j => j < V.heap.size ∧ j ≠ wv.heap.size + 1) V W)
    (fun _ _ => False)
    (fun k W W' h hs _ => ⟨⟨h.1.choose, boxed_same h.1.choose_spec.1 hs (by omega), own_same h.1.choose_spec.2 hs (fun g hg _ => by omega)⟩, h.2.trans (hs.mono (fun j _ hj => by omega))⟩)
    (fun _ _ _ h _ _ => h)
    (fun a b => ⟨⟨_, (v2.alloc _).alloc _, World.ownsRow_nil _ _ _ _⟩, ((Same.refl _ _).alloc _).alloc _⟩)
    (fun k => .cells #[.int .i64 (Zn.frmL 0 cs k), .int .i64 (Zn.upto cs k), .int .i64 (Zn.bef o cs k), .int .i64 (Zn.offs o cs k)] 49)
    (fun s k => { tmps := #[.agg #[.int .i64 o, .slice p cs.length cap], .int .i64 d, .int .i64 m, .pointer (some ⟨w.heap.size, 0, none⟩), undef, undef, .slice none 0 0, .pointer (some ⟨wv.heap.size, 0, none⟩), .pointer (some ⟨wv.heap.size + 1, 0, none⟩), .pointer (some ⟨s, 0, none⟩), undef,
      .agg #[.int .i64 o, .slice p cs.length cap], .bool true, .bool false, .bool false, .int .i64 d, .int .i64 m, .bool true, .bool false, .bool false, .int .i64 d, .int .i64 (d * 1440), .int .i64 m, .int .i64 L, .agg #[.int .i64 o, .slice p cs.length cap],
      .func (.func 34) #[] #[.pointer (some ⟨wv.heap.size + 1 + 1, 0, none⟩)], strV o cs k, undef, undef, undef, undef, undef, undef, undef, undef, undef, undef, undef, undef, undef, undef, undef, undef, undef, undef, undef], defers := [] }) ?assign ?body ?done ?stop
  case assign =>
    intro l k W K hk hK
    simp only [strV] at hK ⊢
    gi_wp2
    exact hK
  case body =>
    rintro l k W0 W1 W2 hk ⟨⟨v, hv0, hr0⟩, hsV⟩ hsz s01 s12 z2 ho2
    have z01 := s01.size
    have sV : Same (fun j => j < V.heap.size ∧ j ≠ wv.heap.size + 1) V W2 := ((hsV.trans (s01.mono (fun j _ hj => by omega))).alloc _).trans (s12.mono (fun j _ hj => by omega))
    have s02 : Same (fun j => j ≠ V.heap.size + 1 ∧ j ≠ V.heap.size + 2) W0 W2 := ((s01.mono (fun j _ hj => hj.2)).alloc _).trans (s12.mono (fun j _ hj => hj.1))
    have hv := boxed_same hv0 s02 ⟨by omega, by omega⟩
    have hrow := own_same hr0 s02 (fun g hg _ => ⟨by omega, by omega⟩)
    have hob : ∀ g, v.ownBlock = some g → V.heap.size + 3 ≤ g ∧ g < W0.heap.size := fun g hg => own_block hr0 hg
    have c1 := sV.heap v1 ⟨by omega, by omega⟩
    have d1 : W2.cell? ⟨wv.heap.size, 0, none⟩ = some (.int .i64 L) := by simp [World.cell?, c1]
    obtain ⟨f, hf⟩ : ∃ f, f = Zn.frmL 0 cs k := ⟨_, rfl⟩
    obtain ⟨t, ht⟩ : ∃ t, t = Zn.upto cs k := ⟨_, rfl⟩
    obtain ⟨u, hu⟩ : ∃ u, u = Zn.bef o cs k := ⟨_, rfl⟩
    obtain ⟨x, hx⟩ : ∃ x, x = Zn.offs o cs k := ⟨_, rfl⟩
    have hob2 := Zn.offs_bd H.out k
    have hpart : Zn.part 0 o cs L k = Zn.cand f t (L - x) := by rw [hf, ht, hx]; rfl
    have hsucc := Zn.instTo_succ 0 o cs L k
    rw [hpart] at hsucc
    have hilen := Zn.instTo_len 0 o cs L k
    rw [← hf, ← ht, ← hu, ← hx] at ho2
    rw [← hx] at hob2
    have d2 : W2.cell? ⟨W1.heap.size, 0, none⟩ = some (.int .i64 f) := by simp [World.cell?, ho2]
    have d3 : W2.cell? ⟨W1.heap.size, 1, none⟩ = some (.int .i64 t) := by simp [World.cell?, ho2]
    have d5 : W2.cell? ⟨W1.heap.size, 3, none⟩ = some (.int .i64 x) := by simp [World.cell?, ho2]
    have w3 : wrap64 (L - x) = L - x := by unfold wrap64; omega
    obtain ⟨y, hy⟩ : ∃ y, y = L - x := ⟨_, rfl⟩
    have w4 : wrap64 (L - x) = y := by rw [w3, hy]
    rw [← hy] at hsucc
    have HY := Lib.hid hy
    generalize hnow : Zn.instTo 0 o cs L k = now at hrow hsucc hilen
    have HS := Lib.hid hsucc
    have HN := Lib.hid hilen
    have HO := Lib.hid hob
    have HV := Lib.hid hv
    have HR := Lib.hid hrow
    have HSV := Lib.hid sV
    have hvc := hv.cell
    have HZ2 := Lib.hid z2
    have hB2 : V.heap.size + 3 ≤ W2.heap.size := by omega
    simp only [strV]
    clear z2 hf ht hu hpart hsucc hilen hob hsV hv0 hr0 s01 s12 s02 c1 v1 v2 v4 ho2 hx hy w3 hob2 hnow
    by_cases hc : f ≤ y ∧ y < t
    · obtain ⟨hca, hcb⟩ := hc
      obtain ⟨hi, hz0, hz1, hz2⟩ := HZ.out
      have HI := Lib.hid hi
      clear hi
      have hcand : Zn.cand f t y = [y] := if_pos ⟨hca, hcb⟩
      gi_wp2_with (gi_at_builtin; refine wpListIn_append_own _ rfl _ _ 33 rfl (V.heap.size + 3) 3 i0 (.int .i64 0) 1 8 Try.underlying33 HI.out hz0 hz1 hz2 rfl (by decide) _ _ _ rfl (HR.out.alloc _) ⟨W2.heap.size, 0, none⟩ 1 1 [.int .i64 y] rfl rfl (cell_one_new _ _ _) (by simp [Value.oneCell']) (by have := HN.out; simp [maxLen]; omega) (by have := HN.out; omega) (by rw [World.size_alloc]; omega) ?_; intro v' w1 hown' hgrow _; obtain ⟨g', cap', rfl⟩ := ownsRow_succ hown'; have hv1 := (HV.out.alloc (.cells #[.int .i64 y] 3)).kept hgrow (HV.out.not_row (by decide) HR.out); have hc1 := hv1.cell; have hf1 := hv1.frozen)
      have s3 : Same (kept (wv.heap.size + 1) (V.heap.size + 2) W0.heap.size) W2 (w1.setCell ⟨wv.heap.size + 1, 0, none⟩ (.slice (some ⟨g', 0, none⟩) (now.length + 1) cap')) :=
        (((Same.refl _ W2).alloc _).grown hgrow (fun r hr hk => by have := HO.out r hr; unfold kept at hk; omega)).setCell _ (fun hk => by unfold kept at hk; dsimp only at hk; omega)
      refine ⟨s3, ⟨_, hv1.set _, ?_⟩, HSV.out.trans (s3.mono (fun j _ hj => .inl ⟨by omega, hj.2⟩))⟩
      have hr2 := hown'.kept (grownBy_setCell' w1 (wv.heap.size + 1) (.slice (some ⟨g', 0, none⟩) (now.length + 1) cap')) (.inr (hv1.not_row (by decide) hown').symm)
      rw [HS.out, hcand]
      simpa using hr2
    · have hcand : Zn.cand f t y = [] := if_neg hc
      have e : Zn.instTo 0 o cs L (k + 1) = now := by rw [HS.out, hcand, List.append_nil]
      have HE := Lib.hid e
      clear e hcand
      by_cases hca : f ≤ y
      · have hcb : ¬ y < t := fun h => hc ⟨hca, h⟩
        clear hc zV
        gi_wp2
        exact ⟨Same.refl _ _, ⟨v, HV.out, by rw [HE.out]; exact HR.out⟩, HSV.out⟩
      · clear hc zV
        gi_wp2
        exact ⟨Same.refl _ _, ⟨v, HV.out, by rw [HE.out]; exact HR.out⟩, HSV.out⟩
  case done =>
    rintro W0 W ⟨⟨v, hv0, hr0⟩, hsV⟩ s0 hd
    have hv := boxed_same hv0 s0 ⟨by omega, by omega⟩
    have hr := own_same hr0 s0 (fun g hg _ => ⟨by omega, by omega⟩)
    have hc := hv.cell
    have sW : Same (fun j => j < V.heap.size ∧ j ≠ wv.heap.size + 1) V W := hsV.trans (s0.mono (fun j _ hj => ⟨by omega, by omega⟩))
    have hbW : Below w.heap.size w W := bwV.trans (sW.below bwV.size (fun j hj => ⟨by omega, by omega⟩))
    rw [Zn.instTo_all, HLL.out] at hr
    have HD := Lib.hid hd
    have HR := Lib.hid hr
    have HBW := Lib.hid hbW
    clear hd hr hbW sW hsV hv0 hr0 s0 v1 v2 v4
    gi_wp2
    refine ⟨by simp, .inl ⟨_, _, rfl, run_takeDeferred HD.out, ?_⟩⟩
    have sP : Same (· ≠ V.heap.size) W (W.putObj V.heap.size (.deferred none)) := (Same.refl _ _).putObj _ (by simp)
    exact ⟨_, results_tmp rfl _ _ _, v, rfl, intsAt_of_owns (own_same HR.out sP (fun g hg _ => by omega)), HBW.out.trans (sP.below HBW.out.size (fun j hj => by omega))⟩
  case stop =>
    intro k W0 W hk h
    exact h.elim
theorem instants_calls (o : Int) (p : Option Addr) (cs : List (Int × Int)) (cap : Nat) (d m : Int) (w : World) (hch : Chg w p cs) :
    Calls Try.prog 20 #[.agg #[.int .i64 o, .slice p cs.length cap], .int .i64 d, .int .i64 m] w fun e w' => ∃ v, e = .returned v ∧ IntsAt w' v (Zn.instS o cs d m) ∧ Below w.heap.size w w' := by
  by_cases h : Zn.Ok o cs
  · by_cases hl : 0 ≤ d ∧ d ≤ 73048 ∧ 0 ≤ m ∧ m ≤ 1439
    · unfold Zn.instS
      rw [if_pos (show Zn.good o cs d m from ⟨h, hl⟩)]
      exact instants_good o p cs cap d m w hch h hl
    · unfold Zn.instS
      rw [if_neg (show ¬ Zn.good o cs d m from fun k => hl k.2)]
      exact (instants_far o p cs cap d m w hch h hl).mono fun e w' ⟨he, hb⟩ => ⟨_, he, intsAt_nil _, hb⟩
  · unfold Zn.instS
    rw [if_neg (show ¬ Zn.good o cs d m from fun k => h k.1)]
    exact (instants_bad o p cs cap d m w hch h).mono fun e w' ⟨he, hb⟩ => ⟨_, he, intsAt_nil _, hb⟩
end Go.Proofs.Ytcacmigfpahicaa

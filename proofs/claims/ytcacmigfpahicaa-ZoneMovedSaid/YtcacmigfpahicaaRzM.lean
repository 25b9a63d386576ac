/- The reference's Moved. -/
import Derived.Test.YtcacmigfpahicaaRzA
import Derived.Test.YtcacmigfpahicaaZnE
import Derived.Deep.RegionLawGrows
namespace Go
/-- append onto a row of the call's own, as a step of a region that draws its order -/
theorem step_append_own {P : Program} {ops : Array Oper} {o : Oper} {a : Act} {w : World} {K : Act → World → Prop} {Q : Exit → Act → World → Prop} {E : Prop}
    (hg : o.guard = none) (s x : Operand) (t : TypeId) (hop : o.op = Op.call { callee := Callee.builtin Builtin.append, args := #[s, x], argTypes := #[t, t] }) (base : Nat)
    (e : TypeId) (i : TypeInfo) (z : Value) (size bytes : Nat) (h1 : P.underlying t = some (.slice e)) (h2 : P.info? e = some i) (h3 : i.zero = some z) (h4 : i.size = size) (h5 : i.bytes = bytes) (h6 : z.cells.size = size) (h7 : 0 < size)
    (v : Value) (k : Nat) (xs : List Value) (hs : a.eval s = v) (hown : w.ownsRow base e size v k xs) (ad : Addr) (m c : Nat) (news : List Value) (hx : a.eval x = .slice (some ad) m c) (hn : news.length = m * size)
    (hc : ∀ j u, news[j]? = some u → w.cell? (ad.add j) = some u) (h1c : ∀ u ∈ news, u.oneCell' = true) (b1 : k + m ≤ maxLen) (b2 : (k + m) * bytes ≤ 140737488355328) (b3 : base ≤ w.heap.size)
    (hK : ∀ v' w', w'.ownsRow base e size v' (k + m) (xs ++ news) → w.grownBy w' v.ownBlock → K (a.put o.dst v') w') :
    if Region.wanted o (yielded ops a.tmps) = true then Oper.wp P o a w K Q else E := by
  have hw : Region.wanted o (yielded ops a.tmps) = true := by simp [Region.wanted, hg]
  rw [if_pos hw]
  obtain ⟨v', w', hrun, r1, r2, _⟩ := run_append_own (P := P) w base t o.type e i z size bytes h1 h2 h3 h4 h5 h6 h7 v k xs hown ad m c news hn hc h1c b1 b2 b3
  unfold Oper.wp
  simp [execOp, hop, resolve, invoke, builtin, hs, hx, hrun, Result.andThen]
  exact hK v' w' r1 r2
end Go
namespace Go.Proofs.Ytcacmigfpahicaa
open Go.RowKit Go.Shelf

theorem info_change : (Try.prog.info? 46).map (fun i => (i.zero, i.size, i.bytes)) = some (some (.agg #[.int .i64 0, .int .i64 0]), 2, 16) := by kernel_rfl
theorem cell_two_new (w : World) (x y : Value) (t : TypeId) : ∀ j u, [x, y][j]? = some u → (w.alloc (.cells #[x, y] t)).cell? ((⟨w.heap.size, 0, none⟩ : Addr).add j) = some u := by
  intro j u hj
  have e := World.alloc_heap_new w (.cells #[x, y] t)
  match j, hj with
  | 0, hj =>
    simp only [List.getElem?_cons_zero, Option.some.injEq] at hj
    subst hj
    rw [show (⟨w.heap.size, 0, none⟩ : Addr).add 0 = ⟨w.heap.size, 0, none⟩ from by simp [Addr.add]]
    simp only [World.cell?, e]
    rfl
  | 1, hj =>
    simp only [List.getElem?_cons_succ, List.getElem?_cons_zero, Option.some.injEq] at hj
    subst hj
    rw [show (⟨w.heap.size, 0, none⟩ : Addr).add 1 = ⟨w.heap.size, 1, none⟩ from by simp [Addr.add]]
    simp only [World.cell?, e]
    rfl
/-- the cells of changes, moved by n -/
def flat (n : Int) (cs : List (Int × Int)) : List Value := cs.flatMap fun c => [.int .i64 c.1, .int .i64 (c.2 + n)]
theorem flat_take (n : Int) {cs : List (Int × Int)} {k : Nat} (h : k < cs.length) : flat n (cs.take (k + 1)) = flat n (cs.take k) ++ [.int .i64 (cs.getD k (0, 0)).1, .int .i64 ((cs.getD k (0, 0)).2 + n)] := by
  have e : cs.take (k + 1) = cs.take k ++ [cs.getD k (0, 0)] := by
    rw [List.take_add_one]
    simp [h]
  rw [e]
  simp [flat]
theorem flat_at (n : Int) : ∀ (cs : List (Int × Int)) (j : Nat), j < cs.length → (flat n cs)[j * 2]? = some (.int .i64 ((cs.map fun c => (c.1, c.2 + n)).getD j (0, 0)).1) ∧ (flat n cs)[j * 2 + 1]? = some (.int .i64 ((cs.map fun c => (c.1, c.2 + n)).getD j (0, 0)).2)
  | [], j, h => by cases h
  | c :: r, 0, _ => by simp [flat]
  | c :: r, j + 1, h => by
    have ih := flat_at n r j (by simpa using h)
    have e : flat n (c :: r) = [.int .i64 c.1, .int .i64 (c.2 + n)] ++ flat n r := by simp [flat]
    rw [e, show (j + 1) * 2 = j * 2 + 2 by omega, show j * 2 + 2 + 1 = (j * 2 + 1) + 2 by omega]
    simpa using ih
theorem chg_of_owns {w : World} {base : Nat} {v : Value} {n : Int} {cs : List (Int × Int)} (h : w.ownsRow base 46 2 v cs.length (flat n cs)) : ∃ q cap, v = .slice q cs.length cap ∧ Chg w q (cs.map fun c => (c.1, c.2 + n)) := by
  rcases h.2 with ⟨hv, h0⟩ | ⟨g, cap, cur, hv, _, hg, _, _, _, ht⟩
  · obtain rfl := List.length_eq_zero_iff.1 h0
    exact ⟨none, 0, hv, .inl rfl⟩
  · refine ⟨_, cap, hv, ?_⟩
    by_cases hz : cs = []
    · subst hz; exact .inl rfl
    · refine .inr ⟨g, 0, rfl, fun j hj => ?_⟩
      have hj' : j < cs.length := by simpa using hj
      obtain ⟨e1, e2⟩ := flat_at n cs j hj'
      rw [← ht, List.getElem?_take, if_pos (by omega)] at e1 e2
      constructor
      · simp only [World.cell?, hg, Nat.zero_add]
        simpa using e1
      · simp only [World.cell?, hg, Nat.zero_add]
        simpa using e2
theorem Same.drew {keep : Nat → Prop} {A B : World} (h : Same keep A B) : Same keep A B.drew := ⟨h.os, h.tape, h.output, h.size, h.block⟩
theorem moved_step {wr w1 W1 V : World} {B b g' cap' k : Nat} {on : Int} {v : Value} {xs ys : List Value} (hb : B < b) (hbx : wr.heap[B]? = some (.cells #[.int .i64 on, v] 24 (0, 0))) (hrow : wr.ownsRow b 46 2 v k xs) (hs : Same (fun j => j < B) W1 wr)
    (hV : Same (fun _ => True) wr V) (hown' : w1.ownsRow b 46 2 (.slice (some ⟨g', 0, none⟩) (k + 1) cap') (k + 1) (xs ++ ys)) (hgrow : V.grownBy w1 v.ownBlock) :
    (w1.setCell ⟨B, 1, none⟩ (.slice (some ⟨g', 0, none⟩) (k + 1) cap')).heap[B]? = some (.cells #[.int .i64 on, .slice (some ⟨g', 0, none⟩) (k + 1) cap'] 24 (0, 0)) ∧
    (w1.setCell ⟨B, 1, none⟩ (.slice (some ⟨g', 0, none⟩) (k + 1) cap')).ownsRow b 46 2 (.slice (some ⟨g', 0, none⟩) (k + 1) cap') (k + 1) (xs ++ ys) ∧
    Same (fun j => j < B) W1 (w1.setCell ⟨B, 1, none⟩ (.slice (some ⟨g', 0, none⟩) (k + 1) cap')) := by
  have hg : ∀ r, v.ownBlock = some r → b ≤ r := fun r hr => (own_block hrow hr).1
  have s1 : Same (fun j => j ≤ B) wr w1 := (hV.mono (fun _ _ _ => trivial)).grown hgrow (fun r hr hk => by have := hg r hr; omega)
  refine ⟨setCell_row (s1.heap hbx (Nat.le_refl _)), own_same hown' ((Same.refl (· ≠ B) w1).setCell _ (by simp)) (fun g hg' _ => by omega), (hs.trans (s1.mono (fun j _ hj => by omega))).setCell _ (by simp)⟩
theorem moved_results {X : World} {b : Nat} {on : Int} {q : Option Addr} {n cap : Nat} (h : X.heap[b]? = some (.cells #[.int .i64 on, .slice q n cap] 24 (0, 0))) (tm : Array Value) (h4 : tm[4]?.getD undef = .pointer (some ⟨b, 0, none⟩)) :
    (results Try.f22 tm).run Try.prog X = .ok (.agg #[.int .i64 on, .slice q n cap]) X := by
  have c0 : X.cell? ⟨b, 0, none⟩ = some (.int .i64 on) := by simp [World.cell?, h]
  have c1 : X.cell? ⟨b, 1, none⟩ = some (.slice q n cap) := by simp [World.cell?, h]
  simp [results, Try.f22, go_sem, h4, c0, c1]
set_option maxRecDepth 100000 in
set_option maxHeartbeats 4000000 in
theorem moved_calls (o : Int) (p : Option Addr) (cs : List (Int × Int)) (cap : Nat) (n : Int) (w : World) (h : Zn.Ok o cs) (hn0 : -1680 ≤ n) (hn1 : n ≤ 1680) (hch : Chg w p cs) :
    Calls Try.prog 22 #[.agg #[.int .i64 o, .slice p cs.length cap], .int .i64 n] w fun e w' => ∃ q cap2, e = .returned (.agg #[.int .i64 (o + n), .slice q cs.length cap2]) ∧ Chg w' q (cs.map fun c => (c.1, c.2 + n)) ∧ Below w.heap.size w w' := by
  obtain ⟨i0, hi, hz0, hz1, hz2⟩ := info_parts info_change
  have hlen : cs.length ≤ 40 := h.2.2.1
  have wo : wrap64 (o + n) = o + n := wrap_in (by have := h.1; omega) (by have := h.2.1; omega)
  obtain ⟨on, hon⟩ : ∃ on, on = o + n := ⟨_, rfl⟩
  rw [← hon]
  have wo' : wrap64 (o + n) = on := by rw [wo, hon]
  obtain ⟨W1, hW1⟩ : ∃ W1, W1 = ((w.alloc (.cells #[.int .i64 o, .slice p cs.length cap] 24)).alloc (.cells #[.int .i64 0, .slice none 0 0] 24)).alloc (.cells #[.int .i64 on, .slice none 0 0] 24) := ⟨_, rfl⟩
  have hB : Below w.heap.size w W1 := by rw [hW1]; exact (by repeat (first | exact Below.refl _ _ | assumption | refine below_drewN ?_ _ | refine Below.setCell ?_ (by first | (simp; done) | (simp; omega)) _ | refine Below.alloc ?_ (by first | (simp; done) | (simp; omega) | omega) _ | refine Below.drew ?_ | refine Below.trans ?_ (Below.mono (by assumption) (by first | (simp; done) | (simp; omega) | omega))))
  have z1 : W1.heap.size = w.heap.size + 3 := by rw [hW1]; simp
  have v0 : W1.heap[w.heap.size]? = some (.cells #[.int .i64 o, .slice p cs.length cap] 24 (0, 0)) := by rw [hW1]; repeat (first | exact heap_new (by simp) | refine (Below.heap_alloc _ _ _ (by first | (simp; done) | (simp; omega))).trans ?_)
  have v1 : W1.heap[w.heap.size + 1]? = some (.cells #[.int .i64 0, .slice none 0 0] 24 (0, 0)) := by rw [hW1]; repeat (first | exact heap_new (by simp) | refine (Below.heap_alloc _ _ _ (by first | (simp; done) | (simp; omega))).trans ?_)
  have v2 : W1.heap[w.heap.size + 2]? = some (.cells #[.int .i64 on, .slice none 0 0] 24 (0, 0)) := by rw [hW1]; repeat (first | exact heap_new (by simp) | refine (Below.heap_alloc _ _ _ (by first | (simp; done) | (simp; omega))).trans ?_)
  have HZ := Lib.hid (And.intro hi (And.intro hz0 (And.intro hz1 hz2)))
  have HB := Lib.hid hB
  have HO := Lib.hid h
  have HC := Lib.hid (hch.below hB)
  have HPW := Lib.hid hch.lt
  have HV0 := Lib.hid v0
  have HV1 := Lib.hid v1
  have HV2 := Lib.hid v2
  have HZ1 := Lib.hid z1
  clear hi hz0 hz1 hz2 hB h hch v0 v1 v2 z1 wo hon
  go_enter Try.func22, Try.ntmps22
  go_wp2_with fail
  rw [← hW1]
  clear hW1
  rw [wo']
  clear wo'
  go_loopw [6] (fun i wr => ∃ (k : Nat) (v : Value), i = .int .i64 k ∧ k ≤ cs.length ∧ wr.heap[w.heap.size + 2]? = some (.cells #[.int .i64 on, v] 24 (0, 0)) ∧ wr.ownsRow (w.heap.size + 3) 46 2 v k (flat n (cs.take k)) ∧ Same (fun j => j < w.heap.size + 2) W1 wr) (fun i _ => cs.length - (intOf i).toNat)
  case atStart => exact ⟨0, .slice none 0 0, rfl, Nat.zero_le _, HV2.out, World.ownsRow_nil _ _ _ _, Same.refl _ _⟩
  case round =>
    obtain ⟨k, v, rfl, hk, hbx, hrow, hs⟩ := hrel
    have hsz := hs.size
    have z0 := hs.heap HV0.out (by omega)
    have a0 : wr.cell? ⟨w.heap.size, 0, none⟩ = some (.int .i64 o) := by simp [World.cell?, z0]
    have a1 : wr.cell? ⟨w.heap.size, 1, none⟩ = some (.slice p cs.length cap) := by simp [World.cell?, z0]
    have b0 : wr.cell? ⟨w.heap.size + 2, 0, none⟩ = some (.int .i64 on) := by simp [World.cell?, hbx]
    have b1 : wr.cell? ⟨w.heap.size + 2, 1, none⟩ = some v := by simp [World.cell?, hbx]
    have bf : wr.frozen? ⟨w.heap.size + 2, 1, none⟩ = false := by simp [World.frozen?, hbx]
    have lz : w.heap.size + 2 < wr.heap.size := by have := HZ1.out; omega
    have HBX := Lib.hid hbx
    have HROW := Lib.hid hrow
    have HS := Lib.hid hs
    clear hbx hrow hs z0
    by_cases hlt : k < cs.length
    · obtain ⟨q, off, rfl, hc⟩ : ∃ q off, p = some ⟨q, off, none⟩ ∧ ∀ j, j < cs.length → W1.cell? ⟨q, off + j * 2, none⟩ = some (.int .i64 (cs.getD j (0, 0)).1) ∧ W1.cell? ⟨q, off + j * 2 + 1, none⟩ = some (.int .i64 (cs.getD j (0, 0)).2) := by
        rcases HC.out with h | h
        · rw [h] at hlt; cases hlt
        · exact h
      have hqw : q < w.heap.size := HPW.out _ rfl (fun h => by rw [h] at hlt; cases hlt)
      have e := hc k hlt
      have e0 := HS.out.cell e.1 (by dsimp only; omega)
      have e1 := HS.out.cell e.2 (by dsimp only; omega)
      have hql : q < wr.heap.size := by omega
      have hbd := Zn.offs_bd HO.out (k + 1)
      have hfl := flat_take n hlt
      obtain ⟨x, hx⟩ : ∃ x, x = (cs.getD k (0, 0)).1 := ⟨_, rfl⟩
      obtain ⟨y, hy⟩ : ∃ y, y = (cs.getD k (0, 0)).2 := ⟨_, rfl⟩
      have hbd' : -840 ≤ y ∧ y ≤ 840 := by rw [hy]; exact hbd
      rw [← hx] at e0
      rw [← hy] at e1
      rw [← hx, ← hy] at hfl
      have wy : wrap64 (y + n) = y + n := wrap_in (by omega) (by omega)
      obtain ⟨yn, hyn⟩ : ∃ yn, yn = y + n := ⟨_, rfl⟩
      have wy' : wrap64 (y + n) = yn := by rw [wy, hyn]
      have wy2 : IntKind.i64.wrap (y + n) = yn := by rw [hyn]; exact IntWalk.i64_in _ (by omega)
      rw [← hyn] at hfl
      have HFL := Lib.hid hfl
      have HK := Lib.hid hlt
      obtain ⟨hi, hz0, hz1, hz2⟩ := HZ.out
      have HI := Lib.hid hi
      have HY0 := Lib.hid hz0
      have HY1 := Lib.hid hz1
      have HY2 := Lib.hid hz2
      clear hi hz0 hz1 hz2 e hc hx hy hfl hbd hbd' wy hyn
      go_wp2_with fail
      go_region_law (refine step_append_own rfl (.tmp 20) (.tmp 36) 22 rfl (w.heap.size + 3) 46 i0 (.agg #[.int .i64 0, .int .i64 0]) 2 16 Try.underlying22 HI.out HY0.out HY1.out HY2.out rfl (by decide) v k (flat n (cs.take k)) (by simp [Act.eval]) (by first | exact HROW.out.alloc _ | exact (show wr.drew.ownsRow _ _ _ _ _ _ from HROW.out).alloc _) ⟨wr.heap.size, 0, none⟩ 1 1 [.int .i64 x, .int .i64 yn] (by simp [Act.eval]) rfl (fun j u h => cell_two_new wr _ _ _ j u h) (by simp [Value.oneCell']) (by simp [maxLen]; omega) (by omega) (by simp; omega) ?_; intro v' w1 hown' hgrow; obtain ⟨g', cap', rfl⟩ := ownsRow_succ hown'; have hbw := (hgrow.block (w.heap.size + 2) (by first | (simp; done) | (simp; omega)) (fun e => by have := (own_block HROW.out e.symm).1; omega)).trans ((Below.heap_alloc wr _ _ (by omega)).trans HBX.out); have hk0 : w1.cell? ⟨w.heap.size + 2, 0, none⟩ = some (.int .i64 on) := (by simp only [World.cell?, hbw]; rfl); have hk1 : w1.cell? ⟨w.heap.size + 2, 1, none⟩ = some v := (by simp only [World.cell?, hbw]; rfl); have hkf : w1.frozen? ⟨w.heap.size + 2, 1, none⟩ = false := (by simp [World.frozen?, hbw]))
      all_goals clear a0 a1 b0 b1 bf e0 e1 hk0 hk1 hkf
      all_goals (go_wp2_with fail; go_roundw; (case rel => exact ⟨k + 1, .slice (some ⟨g', 0, none⟩) (k + 1) cap', by simp, HK.out, by rw [HFL.out]; exact moved_step (Nat.lt_succ_self _) HBX.out HROW.out HS.out ((Same.refl _ _).alloc _).drew hown' hgrow⟩); (case measure => simp only [intOf]; exact meas_lt HK.out))
    · obtain rfl : k = cs.length := by omega
      have hr := HROW.out
      rw [List.take_length] at hr
      obtain ⟨q2, cap2, rfl, hcg⟩ := chg_of_owns hr
      have y1 := HS.out.heap HV1.out (by omega)
      have r0 : wr.cell? ⟨w.heap.size + 1, 0, none⟩ = some (.int .i64 0) := by simp [World.cell?, y1]
      have r1 : wr.cell? ⟨w.heap.size + 1, 1, none⟩ = some (.slice none 0 0) := by simp [World.cell?, y1]
      have rf0 : wr.frozen? ⟨w.heap.size + 1, 0, none⟩ = false := by simp [World.frozen?, y1]
      have rf1 : wr.frozen? ⟨w.heap.size + 1, 1, none⟩ = false := by simp [World.frozen?, y1]
      have HY := Lib.hid y1
      have HR := Lib.hid hr
      have HCG := Lib.hid hcg
      clear hr hcg y1
      go_wp2_with fail
      refine bodyPost_ret (moved_results (b := w.heap.size + 1) (setCell_row (setCell_row HY.out)) _ rfl) rfl ?_
      have s2 : Same (· ≠ w.heap.size + 1) wr ((wr.setCell ⟨w.heap.size + 1, 0, none⟩ (.int .i64 on)).setCell ⟨w.heap.size + 1, 1, none⟩ (.slice q2 cs.length cap2)) := ((Same.refl _ wr).setCell _ (by simp)).setCell _ (by simp)
      have s3 := chg_of_owns (own_same HR.out s2 (fun g hg _ => by omega))
      obtain ⟨q3, cap3, e3, hc3⟩ := s3
      cases e3
      exact ⟨_, _, rfl, hc3, HB.out.trans ((HS.out.below (n := w.heap.size) (by have := HB.out.size; omega) (fun j hj => by omega)).trans (s2.below (by omega) (fun j hj => by omega)))⟩
end Go.Proofs.Ytcacmigfpahicaa

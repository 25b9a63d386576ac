/- Zones in memory; what the iterator over a zone's stretches yields. -/
import Derived.Test.YtcacmigfpahicaaRows
import Derived.Test.YtcacmigfpahicaaZnR
import Derived.WalkSpells
import Derived.WalkLawsBesides
import Derived.Deep.LoopGhost
import Derived.Deep.QuietTactic
import Derived.BigQuiet
import Derived.Lib.Hide
import Derived.Lib.SmallJoins
import Derived.Laws.EntriesVeiled
import Derived.Test.YtcacmigfpahicaaZnMath3
namespace Go.Proofs.Ytcacmigfpahicaa
open Go.RowKit
attribute [local go_sem] Oper.semAt_some

theorem size_setCell (W : World) (a : Addr) (v : Value) : (W.setCell a v).heap.size = W.heap.size := by
  show (W.heap.modify _ _).size = _
  rw [Array.size_modify]
theorem setCell_row {W : World} {b i : Nat} {v : Value} {cs : Array Value} {t : TypeId} {fr : Nat × Nat} (h : W.heap[b]? = some (.cells cs t fr)) : (W.setCell ⟨b, i, none⟩ v).heap[b]? = some (.cells (cs.setIfInBounds i v) t fr) := by
  obtain ⟨hlt, hk⟩ := Array.getElem?_eq_some_iff.1 h
  show (W.heap.modify b _)[b]? = _
  rw [Array.getElem?_eq_getElem (by rw [Array.size_modify]; exact hlt), Array.getElem_modify_self, hk]
  rfl
theorem cell_keep {w w' : World} (hb : Below w.heap.size w w') {a : Addr} {v : Value} (hc : w.cell? a = some v) : w'.cell? a = some v := (hb.cell (World.block_lt_of_cell? w a hc)).trans hc
/-- the changes of a zone, as they lie in memory -/
def Chg (w : World) (p : Option Addr) (cs : List (Int × Int)) : Prop :=
  cs = [] ∨ ∃ b off, p = some ⟨b, off, none⟩ ∧ ∀ j, j < cs.length → w.cell? ⟨b, off + j * 2, none⟩ = some (.int .i64 (cs.getD j (0, 0)).1) ∧ w.cell? ⟨b, off + j * 2 + 1, none⟩ = some (.int .i64 (cs.getD j (0, 0)).2)
theorem Chg.below {w w' : World} {p : Option Addr} {cs : List (Int × Int)} (h : Chg w p cs) (hb : Below w.heap.size w w') : Chg w' p cs := by
  rcases h with h | ⟨b, off, hp, h⟩
  · exact .inl h
  · exact .inr ⟨b, off, hp, fun j hj => ⟨cell_keep hb (h j hj).1, cell_keep hb (h j hj).2⟩⟩
theorem Chg.lt {w : World} {p : Option Addr} {cs : List (Int × Int)} (hc : Chg w p cs) (x : Addr) (hx : p = some x) (hne : cs ≠ []) : x.block < w.heap.size := by
  rcases hc with h | ⟨b, off, hp, h⟩
  · exact absurd h hne
  · have := Same.lt_of_cell (h 0 (by cases cs with | nil => exact absurd rfl hne | cons a l => simp)).1
    rw [hp] at hx
    cases hx
    exact this
/-- the k-th stretch -/
def strV (o : Int) (cs : List (Int × Int)) (k : Nat) : Value := .agg #[.int .i64 (Zn.frmL 0 cs k), .int .i64 (Zn.upto cs k), .int .i64 (Zn.bef o cs k), .int .i64 (Zn.offs o cs k)]

theorem stretches_calls (o : Int) (p : Option Addr) (n cap : Nat) (w : World) :
    Calls Try.prog 32 #[.agg #[.int .i64 o, .slice p n cap]] w fun e w' =>
      e = .returned (.func (.func 34) #[] #[.pointer (some ⟨w.heap.size, 0, none⟩)]) ∧ w' = w.alloc (.cells #[.int .i64 o, .slice p n cap] 24) := by
  go_enter Try.func32, Try.ntmps32
  go_wp2
  go_ret
  exact ⟨rfl, rfl⟩

set_option maxRecDepth 100000 in
set_option maxHeartbeats 1000000 in
theorem iter_in (F : Fence) (n : Nat) (hF : F.fn 34) (hro : F.round = none) (hn : 1 ≤ n) (o : Int) (p : Option Addr) (cs : List (Int × Int)) (cap zb q : Nat) (w : World) (hlen : cs.length ≤ 100)
    (hzb : zb < w.heap.size) (hq : q < w.heap.size) (hch : Chg w p cs) (hpq : ∀ x, p = some x → cs ≠ [] → x.block ≠ q) (c0 : w.cell? ⟨zb, 0, none⟩ = some (.int .i64 o)) (c1 : w.cell? ⟨zb, 1, none⟩ = some (.slice p cs.length cap)) :
    Gives F n Try.prog 34 #[.pointer (some ⟨zb, 0, none⟩)] (fun k => #[strV o cs k]) (cs.length + 1) q w := fun l J Jx W hW hsz hY h0 => by
  refine callsIn_of_wp Try.func34 rfl hF ?_ hro
  simp only [Try.ntmps34, List.size_toArray, List.length_cons, List.length_nil, Nat.reduceAdd, Nat.reduceSub, Array.replicate_succ, Array.replicate_zero, List.push_toArray, List.append_toArray, List.nil_append, List.cons_append]
  have d0 : W.cell? ⟨zb, 0, none⟩ = some (.int .i64 o) := (hW.cell (p := ⟨zb, 0, none⟩) hzb).trans c0
  have d1 : W.cell? ⟨zb, 1, none⟩ = some (.slice p cs.length cap) := (hW.cell (p := ⟨zb, 1, none⟩) hzb).trans c1
  rw [← hsz] at hY ⊢
  have HY := Lib.hid hY
  have HC := Lib.hid (hch.below hW)
  have HP := Lib.hid hpq
  have hz : zb < W.heap.size := by omega
  have hqW : q < W.heap.size := by omega
  clear hY hsz hW c0 c1 hzb hch hpq hq
  gi_wp2
  gi_loopw [14] (fun i wr => ∃ (k : Nat) (W0 : World) (t : Int), i = .int .i64 k ∧ k ≤ cs.length ∧ J k W0 ∧ Same (· ≠ W.heap.size) W0 wr ∧
      wr.heap[W.heap.size]? = some (.cells #[.int .i64 (Zn.frmL 0 cs k), .int .i64 t, .int .i64 (Zn.bef o cs k), .int .i64 (Zn.offs o cs k)] 49 (0, 0)) ∧ Same (fun j => j < W.heap.size ∧ j ≠ q) W wr)
    (fun i _ => cs.length - (intOf i).toNat)
  case atStart =>
    exact ⟨0, W, 0, rfl, Nat.zero_le _, h0, (Same.refl _ _).alloc _, World.alloc_heap_new W _, (Same.refl _ _).alloc _⟩
  case round =>
    obtain ⟨k, W0, t, rfl, hk, hJ, hs0, hb, hsW⟩ := hrel
    have b0 : wr.cell? ⟨W.heap.size, 0, none⟩ = some (.int .i64 (Zn.frmL 0 cs k)) := by simp [World.cell?, hb]
    have b1 : wr.cell? ⟨W.heap.size, 1, none⟩ = some (.int .i64 t) := by simp [World.cell?, hb]
    have b2 : wr.cell? ⟨W.heap.size, 2, none⟩ = some (.int .i64 (Zn.bef o cs k)) := by simp [World.cell?, hb]
    have b3 : wr.cell? ⟨W.heap.size, 3, none⟩ = some (.int .i64 (Zn.offs o cs k)) := by simp [World.cell?, hb]
    have g0 : wr.frozen? ⟨W.heap.size, 0, none⟩ = false := by simp [World.frozen?, hb]
    have g1 : wr.frozen? ⟨W.heap.size, 1, none⟩ = false := by simp [World.frozen?, hb]
    have g2 : wr.frozen? ⟨W.heap.size, 2, none⟩ = false := by simp [World.frozen?, hb]
    have g3 : wr.frozen? ⟨W.heap.size, 3, none⟩ = false := by simp [World.frozen?, hb]
    have hlt := (Array.getElem?_eq_some_iff.1 hb).1
    have HJ := Lib.hid hJ
    have HS := Lib.hid hs0
    have HB := Lib.hid hb
    have HW := Lib.hid hsW
    clear hJ hs0 hb hsW
    by_cases hkn : k < cs.length
    · obtain ⟨b, off, rfl, hc⟩ : ∃ b off, p = some ⟨b, off, none⟩ ∧ ∀ j, j < cs.length → W.cell? ⟨b, off + j * 2, none⟩ = some (.int .i64 (cs.getD j (0, 0)).1) ∧ W.cell? ⟨b, off + j * 2 + 1, none⟩ = some (.int .i64 (cs.getD j (0, 0)).2) := by
        rcases HC.out with h | h
        · rw [h] at hkn; cases hkn
        · exact h
      have e := hc k hkn
      have hbW : b < W.heap.size := Same.lt_of_cell e.1
      have hbq : b ≠ q := HP.out _ rfl (fun h => by rw [h] at hkn; cases hkn)
      have e0 := HW.out.cell e.1 ⟨hbW, hbq⟩
      have e1 := HW.out.cell e.2 ⟨hbW, hbq⟩
      have hbr : b < wr.heap.size := by omega
      clear e hc
      obtain ⟨x, hx⟩ : ∃ x, x = (cs.getD k (0, 0)).1 := ⟨_, rfl⟩
      obtain ⟨y, hy⟩ : ∃ y, y = (cs.getD k (0, 0)).2 := ⟨_, rfl⟩
      obtain ⟨f, hf⟩ : ∃ f, f = Zn.frmL 0 cs k := ⟨_, rfl⟩
      obtain ⟨u, hu⟩ : ∃ u, u = Zn.bef o cs k := ⟨_, rfl⟩
      obtain ⟨v, hv⟩ : ∃ v, v = Zn.offs o cs k := ⟨_, rfl⟩
      rw [← hx] at e0
      rw [← hy] at e1
      rw [← hf] at b0
      rw [← hu] at b2
      rw [← hv] at b3
      have hB := HB.out
      rw [← hf, ← hu, ← hv] at hB
      obtain ⟨fn, tmps, assign, body, hye, hR⟩ := HY.out k W0 ((wr.setCell ⟨W.heap.size, 1, none⟩ (.int .i64 x)).alloc (.cells #[.int .i64 x, .int .i64 y] 46)) (by omega) HJ.out ((HS.out.setCell _ (by simp)).alloc _)
      have hw : wrap64 ((k : Int) + 1) = (k : Int) + 1 := by unfold wrap64; omega
      have hup : Zn.upto cs k = x := by unfold Zn.upto; rw [if_pos hkn, hx]
      rw [strV, hup, ← hf, ← hu, ← hv] at hye
      have HX := Lib.hid hx
      have HYY := Lib.hid hy
      have HF := Lib.hid hf
      have HU := Lib.hid hu
      have HV := Lib.hid hv
      have HBB := Lib.hid hB
      clear hx hy hf hu hv hB hup
      gi_wp2
      refine hR.mono ?_
      have hB1 : ((wr.setCell ⟨W.heap.size, 1, none⟩ (.int .i64 x)).alloc (.cells #[.int .i64 x, .int .i64 y] 46)).heap[W.heap.size]? = some (.cells #[.int .i64 f, .int .i64 x, .int .i64 u, .int .i64 v] 49 (0, 0)) :=
        (Below.heap_alloc _ _ _ (by rw [size_setCell]; exact hlt)).trans (setCell_row HBB.out)
      have hC1 : ((wr.setCell ⟨W.heap.size, 1, none⟩ (.int .i64 x)).alloc (.cells #[.int .i64 x, .int .i64 y] 46)).heap[wr.heap.size]? = some (.cells #[.int .i64 x, .int .i64 y] 46 (0, 0)) :=
        (by have e := World.alloc_heap_new (wr.setCell ⟨W.heap.size, 1, none⟩ (.int .i64 x)) (.cells #[.int .i64 x, .int .i64 y] 46); rwa [size_setCell] at e)
      rintro e W3 (⟨rfl, hJ3, hk3⟩ | ⟨rfl, hJx3⟩)
      · have hB3 := hk3.heap hB1 (.inl ⟨Nat.le_refl _, by omega⟩)
        have hC3 := hk3.heap hC1 (.inr HS.out.size)
        have k0 : W3.cell? ⟨W.heap.size, 0, none⟩ = some (.int .i64 f) := by simp [World.cell?, hB3]
        have k1 : W3.cell? ⟨W.heap.size, 1, none⟩ = some (.int .i64 x) := by simp [World.cell?, hB3]
        have k2 : W3.cell? ⟨W.heap.size, 2, none⟩ = some (.int .i64 u) := by simp [World.cell?, hB3]
        have k3 : W3.cell? ⟨W.heap.size, 3, none⟩ = some (.int .i64 v) := by simp [World.cell?, hB3]
        have m0 : W3.frozen? ⟨W.heap.size, 0, none⟩ = false := by simp [World.frozen?, hB3]
        have m1 : W3.frozen? ⟨W.heap.size, 1, none⟩ = false := by simp [World.frozen?, hB3]
        have m2 : W3.frozen? ⟨W.heap.size, 2, none⟩ = false := by simp [World.frozen?, hB3]
        have m3 : W3.frozen? ⟨W.heap.size, 3, none⟩ = false := by simp [World.frozen?, hB3]
        have n0 : W3.cell? ⟨wr.heap.size, 0, none⟩ = some (.int .i64 x) := by simp [World.cell?, hC3]
        have n1 : W3.cell? ⟨wr.heap.size, 1, none⟩ = some (.int .i64 y) := by simp [World.cell?, hC3]
        have HJ3 := Lib.hid hJ3
        have HK3 := Lib.hid hk3
        have HB3 := Lib.hid hB3
        clear hJ3 hk3 hB3 hC3 hB1 hC1 hR hye
        gi_wp2
        go_roundw
        case rel =>
          refine ⟨k + 1, W3, 0, by simp, by omega, HJ3.out, ?_, ?_, ?_⟩
          · repeat (first | exact Same.refl _ _ | refine Same.setCell ?_ _ (by simp))
          · have e1 : Zn.frmL 0 cs (k + 1) = x := HX.out.symm
            have e2 : Zn.bef o cs (k + 1) = v := HV.out.symm
            have e3 : Zn.offs o cs (k + 1) = y := HYY.out.symm
            rw [e1, e2, e3]
            exact setCell_row (setCell_row (setCell_row (setCell_row HB3.out)))
          · have a1 : Same (fun j => j < W.heap.size ∧ j ≠ q) wr ((wr.setCell ⟨W.heap.size, 1, none⟩ (.int .i64 x)).alloc (.cells #[.int .i64 x, .int .i64 y] 46)) :=
              ((Same.refl _ _).setCell _ (by simp)).alloc _
            have a2 := (HW.out.trans a1).trans (HK3.out.mono (fun j _ hj => .inl ⟨by omega, hj.2⟩))
            repeat (first | exact a2 | refine Same.setCell ?_ _ (by simp))
        case measure => simp [intOf]; omega
      · gi_wp2
        refine bodyPost_ret (results_none rfl _ _ _) rfl ?_
        exact ⟨⟨_, rfl⟩, .inr ⟨k, by omega, hJx3⟩⟩
    · obtain rfl : k = cs.length := by omega
      obtain ⟨f, hf⟩ : ∃ f, f = Zn.frmL 0 cs cs.length := ⟨_, rfl⟩
      obtain ⟨u, hu⟩ : ∃ u, u = Zn.bef o cs cs.length := ⟨_, rfl⟩
      obtain ⟨v, hv⟩ : ∃ v, v = Zn.offs o cs cs.length := ⟨_, rfl⟩
      rw [← hf] at b0
      rw [← hu] at b2
      rw [← hv] at b3
      obtain ⟨fn, tmps, assign, body, hye, hR⟩ := HY.out cs.length W0 (wr.setCell ⟨W.heap.size, 1, none⟩ (.int .i64 105190560)) (by omega) HJ.out (HS.out.setCell _ (by simp))
      have hup : Zn.upto cs cs.length = 105190560 := by unfold Zn.upto; rw [if_neg (by omega)]
      rw [strV, hup, ← hf, ← hu, ← hv] at hye
      clear hf hu hv hup
      gi_wp2
      refine hR.mono ?_
      rintro e W3 (⟨rfl, hJ3, hk3⟩ | ⟨rfl, hJx3⟩)
      · gi_wp2
        go_end0
        exact ⟨⟨_, rfl⟩, .inl ⟨W3, hJ3, Same.refl _ _⟩⟩
      · gi_wp2
        go_end0
        exact ⟨⟨_, rfl⟩, .inr ⟨_, by omega, hJx3⟩⟩
end Go.Proofs.Ytcacmigfpahicaa

/- The walk of date.counter: what it hands back, and what that holds. -/
import Derived.Test.YtlbfnafniobnaaaDoorDtF
namespace Go.Proofs.YtlbfnafniobnaaaDoor
open Go.RowKit

theorem info_int : (Tryd.prog.info? 3).map (fun i => (i.zero, i.size, i.bytes)) = some (some (.int .i64 0), 1, 8) := by kernel_rfl
theorem tk_skip {W : Nat → Bool} {hs : List Int} {k d : Nat} (hk : k < hs.length) (hd : hs.getD k 0 = (d : Int)) (hw : W (d % 7) = true) : Dt.taken W (hs.take (k + 1)) = Dt.taken W (hs.take k) := by
  have e : hs[k] = (d : Int) := by simpa [hk] using hd
  unfold Dt.taken
  rw [List.take_add_one, List.getElem?_eq_getElem hk, List.filter_append]
  simp [e, show ((d : Int) % 7).toNat = d % 7 by omega, hw]
theorem tk_take {W : Nat → Bool} {hs : List Int} {k d : Nat} (hk : k < hs.length) (hd : hs.getD k 0 = (d : Int)) (hw : W (d % 7) = false) : Dt.taken W (hs.take (k + 1)) = Dt.taken W (hs.take k) ++ [(d : Int)] := by
  have e : hs[k] = (d : Int) := by simpa [hk] using hd
  unfold Dt.taken
  rw [List.take_add_one, List.getElem?_eq_getElem hk, List.filter_append]
  simp [e, show ((d : Int) % 7).toNat = d % 7 by omega, hw]
theorem tk_le (W : Nat → Bool) (hs : List Int) (k : Nat) : (Dt.taken W (hs.take k)).length ≤ k := Nat.le_trans (List.length_filter_le _ _) (List.length_take_le _ _)
theorem asc_in : ∀ {hs : List Int}, Dt.Asc hs → ∀ k, k < hs.length → 0 ≤ hs.getD k 0 ∧ hs.getD k 0 ≤ 73048 := fun h k hk => ((asc_okTo _).1 h k hk).1
/-- what the counting function has captured -/
def CntAt (w : World) (Bt Bb tb c : Nat) (W : Nat → Bool) (hs : List Int) : Prop :=
  w.cell? ⟨Bt, 0, none⟩ = some (.slice (some ⟨tb, 0, none⟩) (Dt.taken W hs).length c) ∧ (∀ j, j < (Dt.taken W hs).length → w.cell? ⟨tb, 0 + j, none⟩ = some (.int .i64 ((Dt.taken W hs).getD j 0))) ∧ (∀ j, j < 8 → w.cell? ⟨Bb, j, none⟩ = some (.int .i64 (Dt.bef W j : Nat)))
theorem CntAt.below {w w' : World} {Bt Bb tb c : Nat} {W : Nat → Bool} {hs : List Int} (h : CntAt w Bt Bb tb c W hs) (hb : Below w.heap.size w w') : CntAt w' Bt Bb tb c W hs :=
  ⟨cell_keep hb h.1, fun j hj => cell_keep hb (h.2.1 j hj), fun j hj => cell_keep hb (h.2.2 j hj)⟩
theorem bef_le (W : Nat → Bool) : ∀ k, Dt.bef W k ≤ k
  | 0 => Nat.le_refl _
  | k + 1 => by have := bef_le W k; show Dt.bef W k + _ ≤ _; split <;> omega
/-- the array in which the weekdays are counted, after k rounds -/
def BefArr (W : Nat → Bool) (k : Nat) (cs : Array Value) : Prop := cs.size = 8 ∧ ∀ j, j ≤ k → cs[j]? = some (.int .i64 (Dt.bef W j : Nat))
theorem befArr0 (W : Nat → Bool) : BefArr W 0 #[.int .i64 0, .int .i64 0, .int .i64 0, .int .i64 0, .int .i64 0, .int .i64 0, .int .i64 0, .int .i64 0] := ⟨rfl, fun j hj => by
  have : j = 0 := Nat.le_zero.1 hj
  subst this
  rfl⟩
theorem index_wk (b0 b1 b2 b3 b4 b5 b6 : Bool) : ∀ k, k < 7 → ∀ w, (Instr.index 25 (.agg #[.bool b0, .bool b1, .bool b2, .bool b3, .bool b4, .bool b5, .bool b6]) (.int .i64 ((k : Nat) : Int))).run Tryd.prog w = .ok (.bool (Dt.wk b0 b1 b2 b3 b4 b5 b6 k)) w
  | 0, _, _ | 1, _, _ | 2, _, _ | 3, _, _ | 4, _, _ | 5, _, _ | 6, _, _ => by kernel_rfl
  | n + 7, h, _ => by omega
theorem befArr_next {W : Nat → Bool} {k : Nat} {cs : Array Value} {v : Value} (h : BefArr W k cs) (hk : k < 7) (hv : v = .int .i64 (Dt.bef W (k + 1) : Nat)) : BefArr W (k + 1) (cs.setIfInBounds (k + 1) v) := by
  refine ⟨by simp [h.1], fun j hj => ?_⟩
  by_cases he : j = k + 1
  · subst he; rw [hv, Array.getElem?_setIfInBounds_self_of_lt (by rw [h.1]; omega)]
  · rw [Array.getElem?_setIfInBounds_ne (by omega)]; exact h.2 j (by omega)
theorem befArr_other {W : Nat → Bool} {k : Nat} {cs : Array Value} {v : Value} (h : BefArr W k cs) : BefArr W k (cs.setIfInBounds (k + 1) v) :=
  ⟨by simp [h.1], fun j hj => by rw [Array.getElem?_setIfInBounds_ne (by omega)]; exact h.2 j hj⟩
/-- the days that are gathered, after k rounds: the variable and its row -/
def Rel2 (Bt tb n : Nat) (W : Nat → Bool) (hs : List Int) (k : Nat) (w : World) : Prop :=
  w.heap[Bt]? = some (.cells #[.slice (some ⟨tb, 0, none⟩) (Dt.taken W (hs.take k)).length n] 26 (0, 0)) ∧ w.ownsRow tb 3 1 (.slice (some ⟨tb, 0, none⟩) (Dt.taken W (hs.take k)).length n) (Dt.taken W (hs.take k)).length ((Dt.taken W (hs.take k)).map (Value.int .i64))
theorem rel2_skip {Bt tb n : Nat} {W : Nat → Bool} {hs : List Int} {k d : Nat} {w : World} (hk : k < hs.length) (hd : hs.getD k 0 = (d : Int)) (hw : W (d % 7) = true) (h : Rel2 Bt tb n W hs k w) : Rel2 Bt tb n W hs (k + 1) w := by
  unfold Rel2 at *
  rw [tk_skip hk hd hw]; exact h
theorem rel2_take {Bt tb n : Nat} {W : Nat → Bool} {hs : List Int} {k d : Nat} {w w1 : World} {o : Obj} (hk : k < hs.length) (hd : hs.getD k 0 = (d : Int)) (hw : W (d % 7) = false) (hne : tb < Bt) (h : Rel2 Bt tb n W hs k w)
    (hown : w1.ownsRow tb 3 1 (.slice (some ⟨tb, 0, none⟩) ((Dt.taken W (hs.take k)).length + 1) n) ((Dt.taken W (hs.take k)).length + 1) ((Dt.taken W (hs.take k)).map (Value.int .i64) ++ [.int .i64 (d : Int)])) (hgrow : (w.alloc o).grownBy w1 (some tb)) :
    w1.heap[Bt]? = some (.cells #[.slice (some ⟨tb, 0, none⟩) (Dt.taken W (hs.take k)).length n] 26 (0, 0)) ∧ w1.ownsRow tb 3 1 (.slice (some ⟨tb, 0, none⟩) (Dt.taken W (hs.take (k + 1))).length n) (Dt.taken W (hs.take (k + 1))).length ((Dt.taken W (hs.take (k + 1))).map (Value.int .i64)) := by
  constructor
  · have hl := lt_of_block h.1
    rw [hgrow.block Bt (by simp; omega) (fun e => by have := Option.some.inj e; omega)]
    rw [← h.1]
    exact Array.getElem?_push_lt hl |>.trans (Array.getElem?_eq_getElem hl).symm
  · rw [tk_take hk hd hw]
    simpa using hown
theorem rel2_store {Bt tb n : Nat} {W : Nat → Bool} {hs : List Int} {k d : Nat} {w1 : World} (hk : k < hs.length) (hd : hs.getD k 0 = (d : Int)) (hw : W (d % 7) = false) (hne : tb < Bt)
    (h : w1.heap[Bt]? = some (.cells #[.slice (some ⟨tb, 0, none⟩) (Dt.taken W (hs.take k)).length n] 26 (0, 0)) ∧ w1.ownsRow tb 3 1 (.slice (some ⟨tb, 0, none⟩) (Dt.taken W (hs.take (k + 1))).length n) (Dt.taken W (hs.take (k + 1))).length ((Dt.taken W (hs.take (k + 1))).map (Value.int .i64))) :
    Rel2 Bt tb n W hs (k + 1) (w1.setCell ⟨Bt, 0, none⟩ (.slice (some ⟨tb, 0, none⟩) ((Dt.taken W (hs.take k)).length + 1) n)) := by
  have e : (Dt.taken W (hs.take (k + 1))).length = (Dt.taken W (hs.take k)).length + 1 := by rw [tk_take hk hd hw]; simp
  refine ⟨?_, ownsRow_setCell_other h.2 (fun e => by have := Option.some.inj e; simp at this; omega) _⟩
  rw [e]
  exact one_setCell h.1
theorem cntAt_end {Bt Bb tb n : Nat} {W : Nat → Bool} {hs : List Int} {wr w3 : World} {cs : Array Value} (hn : hs.length = n) (h : Rel2 Bt tb n W hs n w3) (hc : BefArr W 7 cs) (hk : wr.heap[Bb]? = some (.cells cs 121 (0, 0))) (hb : Below (Bb + 1) wr w3) : CntAt w3 Bt Bb tb n W hs := by
  subst hn
  unfold Rel2 at h
  rw [List.take_length] at h
  refine ⟨cell_of_one h.1, fun j hj => ?_, fun j hj => ?_⟩
  · have := h.2.cells (g := tb) rfl j (.int .i64 ((Dt.taken W hs).getD j 0)) (by simp [hj])
    rw [Nat.zero_add]
    simp [Addr.add] at this
    by_cases h0 : j = 0
    · subst h0; simpa using this
    · simpa [h0] using this
  · exact (hb.cell (p := ⟨Bb, j, none⟩) (by simp)).trans ((Joins.cell_of_block hk j).trans (hc.2 j (by omega)))
set_option maxRecDepth 100000 in
set_option maxHeartbeats 3200000 in
theorem counter_any (b0 b1 b2 b3 b4 b5 b6 : Bool) (p : Option Addr) (n cap : Nat) (hs : List Int) (w : World) (hn : hs.length = n) (h4 : n ≤ 400) (hv : Dt.Asc hs) (hh : Hols w p hs) :
    Calls Tryd.prog 62 #[.agg #[.bool b0, .bool b1, .bool b2, .bool b3, .bool b4, .bool b5, .bool b6, .slice p n cap]] w fun e w' => ∃ Bt Bb tb, e = .returned (.func (.func 79) #[] #[.pointer (some ⟨Bt, 0, none⟩), .pointer (some ⟨Bb, 0, none⟩)]) ∧ CntAt w' Bt Bb tb n (Dt.wk b0 b1 b2 b3 b4 b5 b6) hs ∧ Below w.heap.size w w' := by
  obtain ⟨i0, hi, hz0, hz1, hz2⟩ := info_parts info_int
  have HH := Lib.hid hh
  have HN := Lib.hid hn
  have HV := Lib.hid hv
  clear hh hn hv
  go_enter Tryd.func62, Tryd.ntmps62
  go_wp2
  go_loopw [11] (fun i wr => ∃ (k : Nat) (cs : Array Value), i = .int .i64 k ∧ k ≤ 7 ∧ BefArr (Dt.wk b0 b1 b2 b3 b4 b5 b6) k cs ∧ wr.heap[w.heap.size + 1]? = some (.cells cs 121 (0, 0)) ∧ wr.heap.size = w.heap.size + 2 ∧ Below (w.heap.size + 1) (w.alloc (.cells #[.bool b0, .bool b1, .bool b2, .bool b3, .bool b4, .bool b5, .bool b6, .slice p n cap] 28)) wr) (fun i _ => 7 - (intOf i).toNat)
  case atStart => exact ⟨0, #[.int .i64 0, .int .i64 0, .int .i64 0, .int .i64 0, .int .i64 0, .int .i64 0, .int .i64 0, .int .i64 0], rfl, by omega, befArr0 _, by rw [show w.heap.size + 1 = (w.alloc (.cells #[.bool b0, .bool b1, .bool b2, .bool b3, .bool b4, .bool b5, .bool b6, .slice p n cap] 28)).heap.size by simp]; exact heap_alloc_new _ _, by simp, (Below.refl _ _).alloc (by simp) _⟩
  case round =>
    obtain ⟨k, cs, rfl, hk, hcs, hblk, hsz, hbe⟩ := hrel
    by_cases hlt : k < 7
    · have h0 := (Joins.cell_of_block hblk k).trans (hcs.2 k (Nat.le_refl _))
      obtain ⟨v1, hv1⟩ : ∃ v1, cs[k + 1]? = some v1 := ⟨_, Array.getElem?_eq_getElem (by rw [hcs.1]; omega)⟩
      have h1 := (Joins.cell_of_block hblk (k + 1)).trans hv1
      have f1 := Joins.unfrozen_of_block hblk (k + 1)
      have hi2 := index_wk b0 b1 b2 b3 b4 b5 b6 k hlt
      have bl := bef_le (Dt.wk b0 b1 b2 b3 b4 b5 b6) k
      have hn1 : Dt.bef (Dt.wk b0 b1 b2 b3 b4 b5 b6) (k + 1) = Dt.bef (Dt.wk b0 b1 b2 b3 b4 b5 b6) k + (if Dt.wk b0 b1 b2 b3 b4 b5 b6 k = true then 0 else 1) := rfl
      have HS := Lib.hid hcs
      have HK := Lib.hid hblk
      have HN1 := Lib.hid hn1
      have HBE := Lib.hid hbe
      have HSZ := Lib.hid hsz
      clear hcs hblk hn1 hbe hv1 hsz
      generalize hbf : Dt.bef (Dt.wk b0 b1 b2 b3 b4 b5 b6) k = z at *
      cases hwk : Dt.wk b0 b1 b2 b3 b4 b5 b6 k
      · rw [hwk] at hi2
        have HW := Lib.hid hwk
        have HF := Lib.hid hbf
        clear hwk hbf
        go_wp2
        go_roundw
        case rel =>
          refine ⟨k + 1, (cs.setIfInBounds (k + 1) (.int .i64 z)).setIfInBounds (k + 1) (.int .i64 ((z : Int) + 1)), by go_num, by omega, befArr_next (befArr_other HS.out) hlt (by rw [HN1.out, HW.out, if_neg (by simp)]; go_num), Joins.block_setCell (Joins.block_setCell HK.out _) _, by simp [HSZ.out], (HBE.out.setCell (by simp) _).setCell (by simp) _⟩
        case measure => simp [intOf]; omega
      · rw [hwk] at hi2
        have HW := Lib.hid hwk
        have HF := Lib.hid hbf
        clear hwk hbf
        go_wp2
        go_roundw
        case rel =>
          refine ⟨k + 1, cs.setIfInBounds (k + 1) (.int .i64 z), by go_num, by omega, befArr_next HS.out hlt (by rw [HN1.out, HW.out, if_pos rfl]; rfl), Joins.block_setCell HK.out _, by simp [HSZ.out], HBE.out.setCell (by simp) _⟩
        case measure => simp [intOf]; omega
    · obtain rfl : k = 7 := by omega
      obtain ⟨wa, rfl⟩ : ∃ W : World, W = wr := ⟨wr, rfl⟩
      have hv7 : wa.cell? ⟨w.heap.size, 7, none⟩ = some (.slice p n cap) := (hbe.cell (p := ⟨w.heap.size, 7, none⟩) (by simp)).trans (box_hol b0 b1 b2 b3 b4 b5 b6 _ _ w)
      have hwk : ∀ j, j < 7 → wa.cell? ⟨w.heap.size, j, none⟩ = some (.bool (Dt.wk b0 b1 b2 b3 b4 b5 b6 j)) := fun j hj => (hbe.cell (p := ⟨w.heap.size, j, none⟩) (by simp)).trans (box_wk b0 b1 b2 b3 b4 b5 b6 _ _ w j hj)
      have hbw : Below w.heap.size w wa := ((Below.refl _ _).alloc (Nat.le_refl _) _).trans (hbe.mono (by omega))
      have HWK := Lib.hid hwk
      have HBW := Lib.hid hbw
      have HS := Lib.hid hcs
      have HK := Lib.hid hblk
      have HSZ := Lib.hid hsz
      clear hwk hbw hcs hblk hbe
      go_wp2_with (at_make; refine wpList_make_own _ rfl _ _ 26 rfl (w.heap.size + 2) 3 i0 (.int .i64 0) 1 Tryd.underlying26 hi hz0 hz1 _ _ _ n rfl rfl (by omega) ?b2 ?b3 ?b4 ?_)
      case b2 => rw [hz2]; omega
      case b3 => unfold maxLen; omega
      case b4 => omega
      intro w0 hown0 hgrow0
      have hlt0 : w.heap.size + 2 < w0.heap.size := (hown0.lt (w.heap.size + 2) rfl).2
      have hb0 : Below (w.heap.size + 2) wa w0 := (Below.refl _ _).grown hgrow0 (by omega) (fun k h => by cases h)
      have HB0 := Lib.hid hb0
      have HO0 := Lib.hid hown0
      have hv7' : w0.cell? ⟨w.heap.size, 7, none⟩ = some (.slice p n cap) := (hb0.cell (p := ⟨w.heap.size, 7, none⟩) (by simp)).trans hv7
      have hl7 : w.heap.size < w0.heap.size := by omega
      clear hown0 hgrow0 hb0 hv7 hsz
      go_wp2
      go_loopw [37] (fun i w3 => ∃ k : Nat, i = .int .i64 k ∧ k ≤ n ∧ Rel2 w0.heap.size (w.heap.size + 2) n (Dt.wk b0 b1 b2 b3 b4 b5 b6) hs k w3 ∧ Below (w.heap.size + 2) wa w3) (fun i _ => n - (intOf i).toNat)
      case atStart => exact ⟨0, rfl, by omega, ⟨heap_alloc_new _ _, HO0.out.alloc _⟩, HB0.out.alloc (by omega) _⟩
      case round =>
        obtain ⟨k, rfl, hk, hrel, hbe⟩ := hrel
        by_cases hlt : k < n
        · obtain ⟨b, off, rfl, hc⟩ := HH.out.resolve_left (fun e => by have := HN.out; rw [e] at this; simp at this; omega)
          have HC := Lib.hid hc
          clear hc
          have hkn : k < hs.length := by have := HN.out; omega
          have hxr := asc_in HV.out k (by have := HN.out; omega)
          obtain ⟨d, hd⟩ : ∃ d : Nat, hs.getD k 0 = (d : Int) := ⟨(hs.getD k 0).toNat, by omega⟩
          have c1 : wr.cell? ⟨b, off + k, none⟩ = some (.int .i64 (d : Int)) := by
            rw [← hd]
            have e1 := cell_keep HBW.out (HC.out k hkn)
            exact (hbe.cell (p := ⟨b, off + k, none⟩) (by have := World.block_lt_of_cell? w ⟨b, off + k, none⟩ (HC.out k hkn); simp at this ⊢; omega)).trans e1
          have c2 : wr.cell? ⟨w.heap.size, d % 7, none⟩ = some (.bool (Dt.wk b0 b1 b2 b3 b4 b5 b6 (d % 7))) := (hbe.cell (p := ⟨w.heap.size, d % 7, none⟩) (by simp)).trans (HWK.out _ (by omega))
          have c3 := cell_of_one hrel.1
          have f3 := free_of_one hrel.1
          have hd2 : d ≤ 73048 := by omega
          have tl := tk_le (Dt.wk b0 b1 b2 b3 b4 b5 b6) hs k
          have HR := Lib.hid hrel
          have HBE := Lib.hid hbe
          have HD := Lib.hid hd
          clear hrel hbe hd hxr
          cases hwk : Dt.wk b0 b1 b2 b3 b4 b5 b6 (d % 7)
          · rw [hwk] at c2
            have HW := Lib.hid hwk
            clear hwk
            go_wp2_with (at_builtin; refine wpList_append_fits _ rfl (.tmp 47) (.tmp 49) 26 rfl (w.heap.size + 2) 3 i0 1 Tryd.underlying26 hi hz1 (w.heap.size + 2) _ n _ rfl (HR.out.2.alloc _) ⟨wr.heap.size, 0, none⟩ 1 1 [.int .i64 (d : Int)] rfl rfl ?c1 ?c2 (by omega) ?_)
            case c1 =>
              intro j u hj
              match j, hj with
              | 0, hj => simp at hj; subst hj; simp [Addr.add]
            case c2 => intro u hu; simp at hu; subst hu; rfl
            intro w1 hown1 hgrow1
            have R := rel2_take (by have := HN.out; omega) HD.out HW.out (by omega) HR.out hown1 hgrow1
            have hbel : Below (w.heap.size + 2) wa w1 := (HBE.out.alloc (by have := HBE.out.size; have := HSZ.out; omega) _).grown hgrow1 (by have := HBE.out.size; have := HSZ.out; simp; omega) (fun j hj => by cases hj; exact Nat.le_refl _)
            have c4 := cell_of_one R.1
            have f4 := free_of_one R.1
            have HR1 := Lib.hid R
            have HBL := Lib.hid hbel
            clear R hbel hown1 hgrow1
            go_wp2
            go_roundw
            case rel => exact ⟨k + 1, by go_num, by omega, rel2_store (by have := HN.out; omega) HD.out HW.out (by omega) HR1.out, HBL.out.setCell (by simp; omega) _⟩
            case measure => simp [intOf]; omega
          · rw [hwk] at c2
            have HW := Lib.hid hwk
            clear hwk
            go_wp2
            go_roundw
            case rel => exact ⟨k + 1, by go_num, by omega, rel2_skip (by have := HN.out; omega) HD.out HW.out HR.out, HBE.out⟩
            case measure => simp [intOf]; omega
        · obtain rfl : k = n := by omega
          have HR := Lib.hid hrel
          have HBE := Lib.hid hbe
          clear hrel hbe
          go_wp2
          go_ret
          exact ⟨w0.heap.size, w.heap.size + 1, w.heap.size + 2, rfl, cntAt_end HN.out HR.out HS.out HK.out HBE.out, HBW.out.trans (HBE.out.mono (by omega))⟩
end Go.Proofs.YtlbfnafniobnaaaDoor

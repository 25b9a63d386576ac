/- Backward over a slice of nodes. -/
import Derived.Test.YtlbfnafniobnaaaDoorDlG
namespace Go.Proofs.YtlbfnafniobnaaaDoor
open Go.RowKit Go.Shelf
attribute [local go_sem] Oper.semAt_some

/-- the nodes with their indices, from the last one on -/
def bwd (L : List (Dl.T × Nat)) : List ((Dl.T × Nat) × Nat) := L.zipIdx.reverse
theorem bwd_len (L : List (Dl.T × Nat)) : (bwd L).length = L.length := by unfold bwd; simp
theorem bwd_get {L : List (Dl.T × Nat)} {k : Nat} {x : Dl.T × Nat} (h : L[k]? = some x) : (bwd L)[L.length - (k + 1)]? = some (x, k) := by
  have hk := (List.getElem?_eq_some_iff.1 h).1
  unfold bwd
  rw [List.getElem?_reverse (by simp; omega), List.length_zipIdx, show L.length - 1 - (L.length - (k + 1)) = k by omega, List.getElem?_zipIdx, h]
  simp
theorem bwd_step {L : List (Dl.T × Nat)} {k : Nat} {x : Dl.T × Nat} (h : L[k]? = some x) : (bwd L).take (L.length - k) = (bwd L).take (L.length - (k + 1)) ++ [(x, k)] := by
  have hk := (List.getElem?_eq_some_iff.1 h).1
  rw [show L.length - k = L.length - (k + 1) + 1 by omega, List.take_add_one, bwd_get h]
  rfl
theorem backward_calls (p : Option Addr) (n cap : Nat) (w : World) : Calls Tryd.prog 25 #[.slice p n cap] w fun e w' => e = .returned (.func (.func 53) #[] #[.pointer (some ⟨w.heap.size, 0, none⟩)]) ∧ w' = w.alloc (.cells #[.slice p n cap] 62) := by
  go_enter Tryd.func25, Tryd.ntmps25
  go_wp2_with fail
  go_ret
  exact ⟨rfl, rfl⟩
set_option maxRecDepth 100000 in
set_option maxHeartbeats 2000000 in
theorem backward_in (n c g cap : Nat) (L : List (Dl.T × Nat)) (w : World) (hc : w.heap[c]? = some (.cells #[.slice (some ⟨g, 0, none⟩) L.length cap] 62 (0, 0))) (hN : NodesAt w g 0 L) (hg : g < w.heap.size) (hl : L.length ≤ 1000) :
    Gives Fence.wide n Tryd.prog 53 #[.pointer (some ⟨c, 0, none⟩)] (fun y => #[.int .i64 (y.2 : Nat), NV y.1]) (bwd L) (fun j => j = c ∨ j = g) w := by
  intro l J Jx W O0 hW hlt hsz hlen hO hY h0
  have hcl : c < w.heap.size := (Array.getElem?_eq_some_iff.1 hc).1
  have hdd : ∀ k : Nat, (Fence.wide.depth.isSome = true → 1 ≤ k) := fun k h => by cases h
  have hWs := hW.size
  have hcW := (hW.block _ hcl).trans hc
  have HCW := Lib.hid hcW
  have HN := Lib.hid hN
  have HW := Lib.hid hW
  have HLT := Lib.hid hlt
  have HO := Lib.hid hO
  have HY := Lib.hid hY
  have H0 := Lib.hid h0
  have q0 := (box_cell hcW).1
  have hcW' : c < W.heap.size := by omega
  clear hcW hN hW hlt hsz hlen hO hY h0 hc
  refine callsIn_of_wp Tryd.func53 rfl trivial ?_ rfl
  simp only [Tryd.ntmps53, List.size_toArray, List.length_cons, List.length_nil, Nat.reduceAdd, Nat.reduceSub, Array.replicate_succ, Array.replicate_zero, List.push_toArray, List.append_toArray, List.nil_append, List.cons_append]
  gi_wp2
  gi_loopw [3] (fun i wr => ∃ (m : Nat) (z : Int) (O' : Nat → Prop) (Wl : World), i = .int .i64 z ∧ z = (m : Int) - 1 ∧ m ≤ L.length ∧ J ((bwd L).take (L.length - m)) O' Wl ∧ Below Wl.heap.size Wl wr ∧ Same (fun j => ¬ O0 j) W wr ∧ (∀ j, O' j → O0 j ∨ W.heap.size ≤ j)) (fun i _ => (intOf i + 1).toNat)
  case atStart => exact ⟨L.length, _, O0, W, rfl, by first | rfl | omega, Nat.le_refl _, by rw [Nat.sub_self]; exact H0.out, Below.refl _ _, Same.refl _ _, fun j h => .inl h⟩
  case round =>
    obtain ⟨m, z, O', Wl, rfl, hz, hm, hJ, hb, hs, hO'⟩ := hrel
    have hbl := hb.size
    have hcr : wr.heap[c]? = some (.cells #[.slice (some ⟨g, 0, none⟩) L.length cap] 62 (0, 0)) := hs.heap HCW.out (fun h => HO.out c h (.inl rfl))
    have HJ := Lib.hid hJ
    have HB := Lib.hid hb
    have HS := Lib.hid hs
    have HO' := Lib.hid hO'
    have hss := hs.size
    clear hJ hb hs hO' q0
    cases m with
    | zero =>
      obtain rfl : z = -1 := by omega
      clear hz
      gi_wp2
      go_end0
      exact ⟨⟨_, rfl⟩, .inl ⟨O', Wl, by have := HJ.out; rwa [Nat.sub_zero, List.take_of_length_le (by rw [bwd_len]; omega)] at this, HB.out⟩⟩
    | succ k =>
      obtain rfl : z = (k : Int) := by omega
      clear hz
      have hk : k < L.length := by omega
      have hu : L[k]? = some L[k] := List.getElem?_eq_getElem hk
      generalize L[k] = x at hu
      have hst := bwd_step hu
      have hpx : ((bwd L).take (L.length - (k + 1)) ++ [(x, k)]) <+: bwd L := by rw [← hst]; exact List.take_prefix _ _
      obtain ⟨fn, tmps, assign, body, hy, hR⟩ := HY.out _ (x, k) O' Wl wr hpx HJ.out HB.out
      have q0 := (box_cell hcr).1
      have hi0 : (0 : Int) ≤ (k : Int) := by omega
      have hi1 : (k : Int) < (L.length : Int) := by omega
      have hcl2 : c < wr.heap.size := by omega
      have hgl2 : g < wr.heap.size := by omega
      have key : ∀ j (u : Value), (nodeC x)[j]? = some u → j < 6 → wr.cell? ⟨g, k * 6 + j, none⟩ = some u := fun j u hu' hj => by
        have q := HN.out k x j hu hj
        rw [hu', Nat.zero_add] at q
        exact HS.out.cell ((HW.out.cell (p := ⟨g, k * 6 + j, none⟩) hg).trans q) (fun h => HO.out g h (.inr rfl))
      have x0 := key 0 _ rfl (by omega)
      have x1 := key 1 _ rfl (by omega)
      have x2 := key 2 _ rfl (by omega)
      have x3 := key 3 _ rfl (by omega)
      have x4 := key 4 _ rfl (by omega)
      have x5 := key 5 _ rfl (by omega)
      rw [Nat.add_zero] at x0
      dsimp only [NV] at hy
      have HR := Lib.hid hR
      have HST := Lib.hid hst
      clear hR key hst hpx hu hcr
      gi_wp2
      refine ⟨hdd _, HR.out.mono ?_⟩
      rintro e W1 (⟨rfl, O1, hJ1, hs1, hO1⟩ | ⟨rfl, hx1⟩)
      · have s1 : Same (fun j => ¬ O0 j) W W1 := by
          have a1 : Same (fun j => j < W.heap.size ∧ ¬ O0 j) W wr := HS.out.mono (fun _ _ h => h.2)
          have a2 : Same (fun j => j < W.heap.size ∧ ¬ O0 j) wr W1 := hs1.mono (fun i _ h h' => (HO'.out i h').elim h.2 (fun k => by omega))
          exact (a1.trans a2).mono (fun i hi h => ⟨hi, h⟩)
        rw [← HST.out] at hJ1
        have HJ1 := Lib.hid hJ1
        have HS1 := Lib.hid s1
        have HO1 := Lib.hid (fun i (h : O1 i) => show O0 i ∨ W.heap.size ≤ i from (hO1 i h).elim (HO'.out i) (fun k => .inr (by omega)))
        clear hJ1 s1 hO1 hs1 hy HR x0 x1 x2 x3 x4 x5 q0
        gi_wp2
        go_roundw
        case rel => exact ⟨k, _, O1, W1, rfl, rfl, by omega, HJ1.out, Below.refl _ _, HS1.out, HO1.out⟩
        case measure =>
          simp only [intOf]
          omega
      · gi_wp2
        exact bodyPost_ret (v := .tuple #[]) (by simp [results, Tryd.f53, go_sem]) rfl ⟨⟨_, rfl⟩, .inr hx1⟩
end Go.Proofs.YtlbfnafniobnaaaDoor

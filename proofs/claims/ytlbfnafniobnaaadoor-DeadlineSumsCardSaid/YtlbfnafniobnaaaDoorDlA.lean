/- Terms in memory; visit, nodes: all nodes of a term are given, in order. -/
import Derived.Test.YtlbfnafniobnaaaDoorDlMath
import Derived.Test.YtlbfnafniobnaaaDoorDlR
import Derived.Test.YtlbfnafniobnaaaDoorDtB
import Derived.Shelf.Abstract
import Derived.OwnWalkIn
namespace Go.Proofs.YtlbfnafniobnaaaDoor
open Go.RowKit Go.Shelf
attribute [local go_sem] Oper.semAt_some

/-- a term as a value -/
def TV (t : Dl.T) : Value := .agg #[.int .i64 t.kd, .int .i64 t.n, .int .i64 t.ev, .bool t.bz, .slice t.p t.kids.length t.cap]
/-- a node with its depth as a value -/
def NV (x : Dl.T × Nat) : Value := .agg #[.int .i64 x.1.kd, .int .i64 x.1.n, .int .i64 x.1.ev, .bool x.1.bz, .slice x.1.p x.1.kids.length x.1.cap, .int .i64 (x.2 : Nat)]
def KCell (w : World) (b o : Nat) (t : Dl.T) : Prop :=
  w.cell? ⟨b, o, none⟩ = some (.int .i64 t.kd) ∧ w.cell? ⟨b, o + 1, none⟩ = some (.int .i64 t.n) ∧ w.cell? ⟨b, o + 2, none⟩ = some (.int .i64 t.ev) ∧ w.cell? ⟨b, o + 3, none⟩ = some (.bool t.bz) ∧ w.cell? ⟨b, o + 4, none⟩ = some (.slice t.p t.kids.length t.cap)
theorem KCell.below {n₀ : Nat} {w w' : World} {b o : Nat} {t : Dl.T} (h : KCell w b o t) (hb : Below n₀ w w') (hl : b < n₀) : KCell w' b o t :=
  ⟨(hb.cell (p := ⟨b, _, none⟩) hl).trans h.1, (hb.cell (p := ⟨b, _, none⟩) hl).trans h.2.1, (hb.cell (p := ⟨b, _, none⟩) hl).trans h.2.2.1, (hb.cell (p := ⟨b, _, none⟩) hl).trans h.2.2.2.1, (hb.cell (p := ⟨b, _, none⟩) hl).trans h.2.2.2.2⟩
/-- the kids of a term in blocks below n₀ -/
def KidsAt (n₀ : Nat) (w : World) (t : Dl.T) : Prop := ∀ (j : Nat) k, t.kids[j]? = some k → ∃ b off, t.p = some ⟨b, off, none⟩ ∧ b < n₀ ∧ KCell w b (off + j * 5) k
mutual
/-- a term in blocks below n₀ -/
def TIn (n₀ : Nat) (w : World) : Dl.T → Prop
  | .node a b c e p q l => KidsAt n₀ w (.node a b c e p q l) ∧ TInL n₀ w l
def TInL (n₀ : Nat) (w : World) : List Dl.T → Prop
  | [] => True
  | k :: l => TIn n₀ w k ∧ TInL n₀ w l
end
theorem tin_all {n₀ : Nat} {w : World} : ∀ {l : List Dl.T}, TInL n₀ w l ↔ ∀ k ∈ l, TIn n₀ w k
  | [] => by simp [TInL]
  | k :: l => by simp [TInL, tin_all (l := l)]
theorem tin_iff {n₀ : Nat} {w : World} {t : Dl.T} : TIn n₀ w t ↔ KidsAt n₀ w t ∧ ∀ k ∈ t.kids, TIn n₀ w k := by
  cases t
  rw [TIn, tin_all]
  rfl
theorem TIn.below {n₀ : Nat} {w w' : World} (hb : Below n₀ w w') (t : Dl.T) : TIn n₀ w t → TIn n₀ w' t := by
  induction t using Dl.T.ind with
  | h t ih =>
    rw [tin_iff, tin_iff]
    rintro ⟨h1, h2⟩
    refine ⟨fun j k hk => ?_, fun k hk => ih k hk (h2 k hk)⟩
    obtain ⟨b, off, hp, hl, hc⟩ := h1 j k hk
    exact ⟨b, off, hp, hl, hc.below hb hl⟩
theorem TIn.mono {n₀ n₁ : Nat} {w : World} (hn : n₀ ≤ n₁) (t : Dl.T) : TIn n₀ w t → TIn n₁ w t := by
  induction t using Dl.T.ind with
  | h t ih =>
    rw [tin_iff, tin_iff]
    rintro ⟨h1, h2⟩
    refine ⟨fun j k hk => ?_, fun k hk => ih k hk (h2 k hk)⟩
    obtain ⟨b, off, hp, hl, hc⟩ := h1 j k hk
    exact ⟨b, off, hp, by omega, hc⟩
theorem room_free {F : Fence} (hd : F.depth = none) (k : Nat) : F.room k := fun d h => by rw [hd] at h; cases h
theorem yield_any {F : Fence} (hd : F.depth = none) {m : Nat} (m' : Nat) {P : Program} {l : Nat} {args : Array Value} {W : World} {R : Ending → World → Prop} (h : YieldAt F m P l args W R) : YieldAt F m' P l args W R := by
  obtain ⟨fn, tmps, assign, body, hy, hR⟩ := h
  exact ⟨fn, tmps, assign, body, hy, hR.1, fun c cs _ => hR.2 c cs (room_free hd _)⟩

/-- what a call of yield with x does in a world W1 behind one in which pre has come -/
def Round (J : List (Dl.T × Nat) → (Nat → Prop) → World → Prop) (Jx : World → Prop) (pre : List (Dl.T × Nat)) (x : Dl.T × Nat) (O : Nat → Prop) (W1 : World) (e : Ending) (W' : World) : Prop :=
  (e = .returned (.bool true) ∧ ∃ O', J (pre ++ [x]) O' W' ∧ Same (fun j => ¬ O j) W1 W' ∧ ∀ j, O' j → O j ∨ W1.heap.size ≤ j) ∨ (e = .returned (.bool false) ∧ Jx W')
/-- behind visit -/
def Seen (J : List (Dl.T × Nat) → (Nat → Prop) → World → Prop) (Jx : World → Prop) (pre' : List (Dl.T × Nat)) (O : Nat → Prop) (W : World) (e : Ending) (W' : World) : Prop :=
  (e = .returned (.bool true) ∧ ∃ O' W0, J pre' O' W0 ∧ Below W0.heap.size W0 W' ∧ Same (fun j => ¬ O j) W W' ∧ ∀ j, O' j → O j ∨ W.heap.size ≤ j) ∨ (e = .returned (.bool false) ∧ Jx W')

set_option maxRecDepth 100000 in
set_option maxHeartbeats 2000000 in
theorem visit_in (l n₀ : Nat) (xs : List (Dl.T × Nat)) (J : List (Dl.T × Nat) → (Nat → Prop) → World → Prop) (Jx : World → Prop)
    (hlt : ∀ pre O W, J pre O W → ∀ j, O j → n₀ ≤ j ∧ j < W.heap.size) (hsz : ∀ pre O W, J pre O W → n₀ ≤ W.heap.size) (hJN : ∀ pre O W, J pre O W → pre.length ≤ 1000)
    (hY : ∀ m pre x O W0 W1, (pre ++ [x]) <+: xs → J pre O W0 → Below W0.heap.size W0 W1 → YieldAt Fence.wide m Tryd.prog l #[NV x] W1 (Round J Jx pre x O W1)) (t : Dl.T) :
    ∀ (n d : Nat) (pre : List (Dl.T × Nat)) (O : Nat → Prop) (W0 W : World), (pre ++ Dl.nds t d) <+: xs → d ≤ pre.length + 1 → J pre O W0 → Below W0.heap.size W0 W → TIn n₀ W t →
      CallsIn Fence.wide n Tryd.prog 56 #[NV (t, d), .func (.yield l) #[] #[]] W (Seen J Jx (pre ++ Dl.nds t d) O W) := by
  induction t using Dl.T.ind with
  | h t ih =>
    cases t with
    | node kd nn ev bz p cap kids =>
    intro n d pre O W0 W hx hd hJ hb ht
    simp only [Dl.T.kids] at ih
    have hdd : ∀ k : Nat, (Fence.wide.depth.isSome = true → 1 ≤ k) := fun k h => by cases h
    have hO := hlt pre O W0 hJ
    have hn0 := hsz pre O W0 hJ
    have hpn := hJN pre O W0 hJ
    have hbs := hb.size
    have hx1 : (pre ++ [(Dl.T.node kd nn ev bz p cap kids, d)]) <+: xs := by
      rw [Dl.nds_node] at hx
      refine List.IsPrefix.trans ⟨Dl.ndsL kids (d + 1), ?_⟩ hx
      simp
    obtain ⟨hka, hks⟩ := tin_iff.1 ht
    simp only [KidsAt, Dl.T.kids, Dl.T.p] at hka hks
    have HIH := Lib.hid ih
    have HY := Lib.hid hY
    have HO := Lib.hid hO
    have HX := Lib.hid hx
    have HKA := Lib.hid hka
    have HKS := Lib.hid hks
    have HLT := Lib.hid hlt
    have HSZ := Lib.hid hsz
    have HJN := Lib.hid hJN
    have HB := Lib.hid hb
    have HJ := Lib.hid hJ
    obtain ⟨V, hV⟩ : ∃ V, V = W.alloc (.cells #[.int .i64 kd, .int .i64 nn, .int .i64 ev, .bool bz, .slice p kids.length cap, .int .i64 (d : Nat)] 64) := ⟨_, rfl⟩
    have bV : Below W.heap.size W V := by rw [hV]; exact (Below.refl _ W).alloc (Nat.le_refl _) _
    have zV : V.heap.size = W.heap.size + 1 := by rw [hV]; simp
    have hc4 : V.heap[W.heap.size]? = some (.cells #[.int .i64 kd, .int .i64 nn, .int .i64 ev, .bool bz, .slice p kids.length cap, .int .i64 (d : Nat)] 64 (0, 0)) := by rw [hV]; exact World.alloc_heap_new W _
    obtain ⟨fn, tmps, assign, body, hy, hR⟩ := hY (n - 1) pre (Dl.T.node kd nn ev bz p cap kids, d) O W0 V hx1 hJ (hb.trans (bV.mono hb.size))
    have HR := Lib.hid hR
    have HBV := Lib.hid bV
    have HC4 := Lib.hid hc4
    dsimp only [NV, Dl.T.kd, Dl.T.n, Dl.T.ev, Dl.T.bz, Dl.T.p, Dl.T.cap, Dl.T.kids] at hy
    clear ih hY hO hx hka hks hlt hsz hJN hb hJ hR ht bV hx1 hc4
    simp only [NV, Dl.T.kd, Dl.T.n, Dl.T.ev, Dl.T.bz, Dl.T.p, Dl.T.cap, Dl.T.kids]
    refine callsIn_of_wp Tryd.func56 rfl trivial ?_ rfl
    simp only [Tryd.ntmps56, List.size_toArray, List.length_cons, List.length_nil, Nat.reduceAdd, Nat.reduceSub, Array.replicate_succ, Array.replicate_zero, List.push_toArray, List.append_toArray, List.nil_append, List.cons_append]
    gi_wp2
    rw [← hV]
    clear hV
    rw [hy]
    gi_wp2
    refine ⟨hdd _, HR.out.mono ?_⟩
    rintro e W1 (⟨rfl, O1, hJ1, hs1, hO1⟩ | ⟨rfl, hx1⟩)
    rotate_left
    · gi_wp2
      go_ret
      exact .inr ⟨rfl, hx1⟩
    have hnb : ¬ O W.heap.size := fun h => by have := (HO.out _ h).2; omega
    have hW1 : W1.heap[W.heap.size]? = some (.cells #[.int .i64 kd, .int .i64 nn, .int .i64 ev, .bool bz, .slice p kids.length cap, .int .i64 (d : Nat)] 64 (0, 0)) := hs1.heap HC4.out hnb
    have hsW : Same (fun j => ¬ O j) W W1 := ((Same.of_below HBV.out).mono (fun _ _ _ => trivial)).trans hs1
    have hz1 : W.heap.size + 1 ≤ W1.heap.size := by have := hs1.size; omega
    have q4 : W1.cell? ⟨W.heap.size, 4, none⟩ = some (.slice p kids.length cap) := by simp [World.cell?, hW1]
    have HW1 := Lib.hid hW1
    have HSW := Lib.hid hsW
    have HJ1 := Lib.hid hJ1
    have hO1' : ∀ j, O1 j → O j ∨ W.heap.size + 1 ≤ j := fun j h => (hO1 j h).imp id (fun k => by omega)
    have HOO := Lib.hid hO1'
    clear hs1 hO1 hW1 hsW hJ1 hO1' hy HR HJ
    gi_wp2
    gi_loopw [15] (fun i wr => ∃ (j : Nat) (O' : Nat → Prop) (Wl : World), i = .int .i64 j ∧ j ≤ kids.length ∧ J (pre ++ (Dl.T.node kd nn ev bz p cap kids, d) :: Dl.ndsL (kids.take j) (d + 1)) O' Wl ∧ Below Wl.heap.size Wl wr ∧ Same (fun j => ¬ O j) W wr ∧ (∀ j, O' j → O j ∨ W.heap.size + 1 ≤ j) ∧
      wr.heap[W.heap.size]? = some (.cells #[.int .i64 kd, .int .i64 nn, .int .i64 ev, .bool bz, .slice p kids.length cap, .int .i64 (d : Nat)] 64 (0, 0))) (fun i _ => kids.length - (intOf i).toNat)
    case atStart => exact ⟨0, O1, W1, rfl, Nat.zero_le _, by simpa [Dl.ndsL] using HJ1.out, Below.refl _ _, HSW.out, HOO.out, HW1.out⟩
    case round =>
      obtain ⟨j, O', Wl, rfl, hj, hJl, hbl, hsl, hOl, hcl⟩ := hrel
      have hzl : W.heap.size + 1 ≤ wr.heap.size := by have := (Array.getElem?_eq_some_iff.1 hcl).1; omega
      have hpl := HJN.out _ _ _ hJl
      have hjl : j ≤ 1000 := by
        have h1 := Dl.ndsL_le (kids.take j) (d + 1)
        rw [List.length_take, Nat.min_eq_left hj] at h1
        simp only [List.length_append, List.length_cons] at hpl
        omega
      have q0 : wr.cell? ⟨W.heap.size, 5, none⟩ = some (.int .i64 (d : Nat)) := by simp [World.cell?, hcl]
      have HJL := Lib.hid hJl
      have HBL := Lib.hid hbl
      have HSL := Lib.hid hsl
      have HOL := Lib.hid hOl
      have HCL := Lib.hid hcl
      clear hJl hbl hsl hOl hcl
      by_cases hlt2 : j < kids.length
      · have hu : kids[j]? = some kids[j] := List.getElem?_eq_getElem hlt2
        have hmem : kids[j] ∈ kids := List.getElem_mem hlt2
        generalize kids[j] = k at hu hmem
        obtain ⟨b, off, hp, hb0, hkc⟩ := HKA.out j k hu
        subst hp
        have hi0 : (0 : Int) ≤ (j : Int) := by omega
        have hi1 : (j : Int) < (kids.length : Int) := by omega
        have hbn : Below n₀ W wr := HSL.out.below (by omega) (fun i hi h => by have := (HO.out i h).1; omega)
        obtain ⟨k0, k1, k2, k3, k4⟩ := hkc.below hbn hb0
        have hbW : b < wr.heap.size := by omega
        have htk : TIn n₀ wr k := TIn.below hbn k (HKS.out k hmem)
        obtain ⟨V2, hV2⟩ : ∃ V2, V2 = wr.alloc (.cells #[.int .i64 k.kd, .int .i64 k.n, .int .i64 k.ev, .bool k.bz, .slice k.p k.kids.length k.cap] 24) := ⟨_, rfl⟩
        have bV2 : Below wr.heap.size wr V2 := by rw [hV2]; exact (Below.refl _ wr).alloc (Nat.le_refl _) _
        have zV2 : V2.heap.size = wr.heap.size + 1 := by rw [hV2]; simp
        have hIH := HIH.out k hmem (n - 1) (d + 1) (pre ++ (Dl.T.node kd nn ev bz (some ⟨b, off, none⟩) cap kids, d) :: Dl.ndsL (kids.take j) (d + 1)) O' Wl V2
          (by
            refine List.IsPrefix.trans ?_ HX.out
            rw [Dl.nds_node, List.append_assoc, List.cons_append, ← Dl.ndsL_take hu]
            refine ⟨Dl.ndsL (kids.drop (j + 1)) (d + 1), ?_⟩
            rw [List.append_assoc, List.cons_append, ← Dl.ndsL_append, List.take_append_drop])
          (by simp; omega) HJL.out (HBL.out.trans (bV2.mono HBL.out.size)) (TIn.below (bV2.mono (by omega)) k htk)
        rw [List.append_assoc, List.cons_append, ← Dl.ndsL_take hu] at hIH
        have HI := Lib.hid hIH
        have hlW : W.heap.size < wr.heap.size := by omega
        have hlW1 : W.heap.size < wr.heap.size + 1 := by omega
        have hbW1 : b < wr.heap.size + 1 := by omega
        clear hIH hu htk hkc hbn
        gi_wp2
        refine ⟨trivial, hdd _, ?_⟩
        rw [← hV2]
        clear hV2 q4 q0 k0 k1 k2 k3 k4
        have hI := HI.out
        simp only [NV, Int.natCast_add, Int.cast_ofNat_Int] at hI
        refine hI.mono ?_
        rintro e W3 (⟨rfl, O3, W03, hJ3, hb3, hs3, hO3⟩ | ⟨rfl, hx3⟩)
        · have HJ3 := Lib.hid hJ3
          have HB3 := Lib.hid hb3
          have hz3 := hs3.size
          have hs4 : Same (fun j => ¬ O j) W W3 := by
            have a1 : Same (fun j => j < W.heap.size ∧ ¬ O j) W wr := HSL.out.mono (fun _ _ h => h.2)
            have a2 : Same (fun j => j < W.heap.size ∧ ¬ O j) wr V2 := (Same.of_below bV2).mono (fun _ _ _ => trivial)
            have a3 : Same (fun j => j < W.heap.size ∧ ¬ O j) V2 W3 := hs3.mono (fun i _ h h' => (HOL.out i h').elim h.2 (fun k => by omega))
            exact ((a1.trans a2).trans a3).mono (fun i hi h => ⟨hi, h⟩)
          have hcl3 : W3.heap[W.heap.size]? = some (.cells #[.int .i64 kd, .int .i64 nn, .int .i64 ev, .bool bz, .slice (some ⟨b, off, none⟩) kids.length cap, .int .i64 (d : Nat)] 64 (0, 0)) :=
            hs3.heap ((bV2.block _ hlW).trans HCL.out) (fun h => (HOL.out _ h).elim hnb (fun k => by omega))
          have HS4 := Lib.hid hs4
          have HCL3 := Lib.hid hcl3
          have HO3 := Lib.hid (fun i (h : O3 i) => show O i ∨ W.heap.size + 1 ≤ i from (hO3 i h).elim (HOL.out i) (fun k => .inr (by omega)))
          clear hI hJ3 hb3 hs4 hcl3 hO3 hs3
          gi_wp2
          go_roundw
          case rel => exact ⟨j + 1, O3, W03, by simp, hlt2, HJ3.out, HB3.out, HS4.out, HO3.out, HCL3.out⟩
          case measure => simp only [intOf]; omega
        · clear hI
          gi_wp2
          go_ret
          exact .inr ⟨rfl, hx3⟩
      · obtain rfl : j = kids.length := by omega
        gi_wp2
        go_ret
        refine .inl ⟨rfl, O', Wl, ?_, HBL.out, HSL.out, fun j h => (HOL.out j h).imp id (fun k => by omega)⟩
        have := HJL.out
        rw [List.take_length] at this
        rw [Dl.nds_node]
        exact this
end Go.Proofs.YtlbfnafniobnaaaDoor

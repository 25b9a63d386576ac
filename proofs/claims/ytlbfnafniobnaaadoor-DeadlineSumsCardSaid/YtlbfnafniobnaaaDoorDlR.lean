/- A rule for 'for x := range f { .. }' where the iterator f makes new memory alone, and the rounds own some blocks: the iterator's contract (Gives), and the loop over it. -/
import Derived.RangeFuncNested
import Derived.RangeFuncBound
import Derived.RangeFuncCalls
import Derived.RangeFuncLeaves
import Derived.WalkKit
import Derived.TacticsInMore
import Derived.LoopNIn
import Derived.LoopIn
namespace Go.Proofs.YtlbfnafniobnaaaDoor
open Go.RowKit

/-- the world W' has all that lay in W in the blocks that 'keep' names -/
structure Same (keep : Nat → Prop) (W W' : World) : Prop where
  os : W'.os = W.os
  tape : W'.tape = W.tape
  output : W'.output = W.output
  size : W.heap.size ≤ W'.heap.size
  block : ∀ j, j < W.heap.size → keep j → W'.heap[j]? = W.heap[j]?
namespace Same
variable {keep keep' : Nat → Prop} {A B C : World}
theorem refl (keep : Nat → Prop) (W : World) : Same keep W W := ⟨rfl, rfl, rfl, Nat.le_refl _, fun _ _ _ => rfl⟩
theorem trans (h : Same keep A B) (k : Same keep B C) : Same keep A C :=
  ⟨k.os.trans h.os, k.tape.trans h.tape, k.output.trans h.output, Nat.le_trans h.size k.size, fun j hj hk => (k.block j (Nat.lt_of_lt_of_le hj h.size) hk).trans (h.block j hj hk)⟩
theorem mono (h : Same keep A B) (hk : ∀ j, j < A.heap.size → keep' j → keep j) : Same keep' A B := ⟨h.os, h.tape, h.output, h.size, fun j hj hk' => h.block j hj (hk j hj hk')⟩
theorem alloc (h : Same keep A B) (o : Obj) : Same keep A (B.alloc o) :=
  h.trans ⟨rfl, rfl, rfl, by simp, fun j hj _ => Below.heap_alloc _ _ _ hj⟩
theorem putObj (h : Same keep A B) {l : Nat} (o : Obj) (hl : ¬ keep l) : Same keep A (B.putObj l o) :=
  h.trans ⟨rfl, rfl, rfl, by simp, fun j _ hk => World.putObj_heap_other (fun e => hl (e ▸ hk))⟩
theorem setCell (h : Same keep A B) {p : Addr} (u : Value) (hl : ¬ keep p.block) : Same keep A (B.setCell p u) :=
  h.trans ⟨rfl, rfl, rfl, (KeepsWalks.setCell B p u).size, fun _ _ hk => Below.heap_setCell _ _ _ _ (fun e => hl (e ▸ hk))⟩
theorem grown (h : Same keep A B) {row : Option Nat} (hg : B.grownBy C row) (hl : ∀ r, row = some r → ¬ keep r) : Same keep A C :=
  h.trans ⟨hg.os, hg.tape, hg.output, hg.size, fun j hj hk => hg.block j hj (fun e => hl j e.symm hk)⟩
theorem of_below (h : Below A.heap.size A B) : Same (fun _ => True) A B := ⟨h.os, h.tape, h.output, h.size, fun j hj _ => h.block j hj⟩
theorem below (h : Same keep A B) {n : Nat} (hn : n ≤ A.heap.size) (hk : ∀ j, j < n → keep j) : Below n A B := ⟨h.os, h.tape, h.output, h.size, fun j hj => h.block j (by omega) (hk j hj)⟩
theorem heap (h : Same keep A B) {j : Nat} {o : Obj} (ho : A.heap[j]? = some o) (hk : keep j) : B.heap[j]? = some o := (h.block j (Array.getElem?_eq_some_iff.1 ho).1 hk).trans ho
theorem lt_of_cell {W : World} {p : Addr} {v : Value} (h : W.cell? p = some v) : p.block < W.heap.size := by
  obtain ⟨o, ho, _⟩ := cells_of_cell h
  exact (Array.getElem?_eq_some_iff.1 ho).1
theorem cell (h : Same keep A B) {p : Addr} {v : Value} (hc : A.cell? p = some v) (hk : keep p.block) : B.cell? p = some v :=
  (World.cell?_of_block (w := A) (h.block p.block (lt_of_cell hc) hk)).trans hc
theorem frozen (h : Same keep A B) {p : Addr} (hp : p.block < A.heap.size) (hk : keep p.block) : B.frozen? p = A.frozen? p := World.frozen?_of_block (w := A) (h.block p.block hp hk)
end Same

/-- **the contract of an iterator function that writes no old block**: it gives xs; Fx: the blocks that it leans on -/
def Gives {α : Type} (F : Fence) (n : Nat) (P : Program) (gf : Nat) (lb : Array Value) (enc : α → Array Value) (xs : List α) (Fx : Nat → Prop) (w : World) : Prop :=
  ∀ (l : Nat) (J : List α → (Nat → Prop) → World → Prop) (Jx : World → Prop) (W : World) (O0 : Nat → Prop), Below w.heap.size w W →
    (∀ pre O W', J pre O W' → ∀ j, O j → j < W'.heap.size) → (∀ pre O W', J pre O W' → W.heap.size ≤ W'.heap.size) → (∀ pre O W', J pre O W' → pre.length ≤ 1000) → (∀ j, O0 j → ¬ Fx j) →
    (∀ pre x O W0 W1, (pre ++ [x]) <+: xs → J pre O W0 → Below W0.heap.size W0 W1 → YieldAt F (n - 1) P l (enc x) W1 fun e W' =>
      (e = .returned (.bool true) ∧ ∃ O', J (pre ++ [x]) O' W' ∧ Same (fun j => ¬ O j) W1 W' ∧ ∀ j, O' j → O j ∨ W1.heap.size ≤ j) ∨ (e = .returned (.bool false) ∧ Jx W')) →
    J [] O0 W →
    CallsIn F n P gf (#[.func (.yield l) #[] #[]] ++ lb) W fun e W' => (∃ v, e = .returned v) ∧
      ((∃ O W0, J xs O W0 ∧ Below W0.heap.size W0 W') ∨ Jx W')

/-- a new block, or none -/
def allocO (W : World) : Option Obj → World
  | none => W
  | some o => W.alloc o
theorem allocO_below (W : World) (o : Option Obj) : Below W.heap.size W (allocO W o) := by
  cases o with
  | none => exact Below.refl _ _
  | some o => exact (Below.refl _ W).alloc (Nat.le_refl _) _
/-- how a round's body may be left: it goes on, or it returns -/
def roundEnd {α : Type} (B s : Nat) (pre' : List α) (O : Nat → Prop) (I : List α → (Nat → Prop) → World → Prop) (Ix : World → Prop) (W : World) : Exit → Act → World → Prop
  | .normal, _, W' => ∃ O', I pre' O' W' ∧ Same (fun j => ¬ O j) W W' ∧ ∀ j, O' j → O j ∨ s ≤ j
  | .ret, _, W' => Same (fun j => j = B ∨ j = B + 1) W W' ∧ Ix W'
  | _, _, _ => False

/-- **the loop** -/
theorem wpIn_range_own {α : Type} {F : Fence} {n : Nat} {P : Program} {g : Operand} {ps : Array Tmp} {assign body : Code} {Q : Exit → Act → World → Prop} {a : Act} {w : World}
    (hro : F.round = none) (h1 : 1 ≤ n) {gf : Nat} {lb : Array Value} (hg : a.eval g = .func (.func gf) #[] lb) (hFg : F.fn gf) (eg : ∀ args w, (callFunc gf args).run P w = .ok (.enter gf args) w)
    {enc : α → Array Value} {xs : List α} {Fx : Nat → Prop} (hseq : Gives F (n - 1) P gf lb enc xs Fx w) (hps : ∀ x, (enc x).size = ps.size)
    (I : List α → (Nat → Prop) → World → Prop) (Ix : World → Prop) (O0 : Nat → Prop)
    (hlt : ∀ pre O W, I pre O W → ∀ j, O j → j < W.heap.size ∧ j ≠ w.heap.size ∧ j ≠ w.heap.size + 1)
    (hlen : ∀ pre O W, I pre O W → pre.length ≤ 1000)
    (hI : ∀ pre O W W', I pre O W → Same (· ≠ w.heap.size + 1) W W' → W'.heap.size = W.heap.size → I pre O W') (hIx : ∀ W W', Ix W → Same (· ≠ w.heap.size + 1) W W' → W'.heap.size = W.heap.size → Ix W')
    (hO : ∀ j, O0 j → ¬ Fx j) (h0 : ∀ o o', I [] O0 ((w.alloc o).alloc o')) (obj : α → Option Obj) (a₁ : Nat → α → Act)
    (hassign : ∀ (l : Nat) (x : α) (W : World) (K : Act → World → Prop), K (a₁ W.heap.size x) (allocO W (obj x)) →
      assign.wpIn (F.inRound l) (n - 1 - 1) P (Exit.then K (fun _ _ _ => False)) { tmps := (ps.zip (enc x)).foldl (fun t (p, v) => t.setIfInBounds p v) a.tmps, defers := [] } W)
    (hbody : ∀ (l : Nat) (pre : List α) (x : α) (O : Nat → Prop) (W0 W1 W2 : World), (pre ++ [x]) <+: xs → I pre O W0 → w.heap.size + 2 ≤ W0.heap.size → Below W0.heap.size W0 W1 → Same (· ≠ w.heap.size + 1) (allocO W1 (obj x)) W2 → W2.heap.size = (allocO W1 (obj x)).heap.size →
      body.wpIn (F.inRound l) (n - 1 - 1) P (roundEnd w.heap.size W1.heap.size (pre ++ [x]) O I Ix W2) (a₁ W1.heap.size x) W2)
    (hdone : ∀ (O : Nat → Prop) (W0 W : World), I xs O W0 → Same (fun j => j ≠ w.heap.size + 1) W0 W → W.heap[w.heap.size]? = some (.deferred (some [])) →
      Q .normal { a with defers := { target := .collected w.heap.size, args := #[] } :: a.defers } W)
    (hstop : ∀ (W0 W : World), Ix W0 → Same (fun j => j ≠ w.heap.size + 1) W0 W → W.heap[w.heap.size]? = some (.deferred (some [])) →
      Code.ret.wpIn F n P Q { a with defers := { target := .collected w.heap.size, args := #[] } :: a.defers } W) :
    (Code.rangeFunc g ps assign body).wpIn F n P Q a w := by
  refine wpIn_rangeFunc fun fn hfn => ?_
  rw [hro]
  obtain ⟨B, hB⟩ : ∃ B, w.heap.size = B := ⟨_, rfl⟩
  obtain ⟨rec, hrec⟩ : ∃ rec : LoopState → Option Code → Loop, rec = fun st pe => { state := st, pending := pe, fn, tmps := a.tmps, params := ps, assign, body, defers := w.heap.size } := ⟨_, rfl⟩
  obtain ⟨V, hV⟩ : ∃ V, (w.alloc (.deferred (some []))).alloc (.loop (rec .ready none)) = V := ⟨_, rfl⟩
  have vs : V.heap.size = B + 2 := by rw [← hV, ← hB]; simp
  have vl : V.heap[B + 1]? = some (.loop (rec .ready none)) := by
    have e := World.alloc_heap_new (w.alloc (.deferred (some []))) (.loop (rec .ready none))
    rw [World.size_alloc, hV, hB] at e
    exact e
  have vd : V.heap[B]? = some (.deferred (some [])) := by
    rw [← hV, ← hB]
    exact (Below.heap_alloc _ _ _ (by simp)).trans (World.alloc_heap_new w _)
  have vb : Below w.heap.size w V := by
    rw [← hV]
    exact ((Below.refl _ w).alloc (Nat.le_refl _) _).alloc (by simp) _
  refine ⟨B + 1, [{ target := .collected B, args := #[] }], V, { target := .fn (.func gf) lb, args := #[.func (.yield (B + 1)) #[] #[]] }, V, gf, #[.func (.yield (B + 1)) #[] #[]] ++ lb, V, ?_, ?_, ?_, ?_, fun _ => h1, ?_⟩
  · rw [← hV, ← hB, hrec]
    exact run_enterLoop_outer _ _ _ _ _
  · simp only [resolve, hg]
    simp [go_sem]
  · intro f hf
    simp [Target.leads] at hf
    exact hf ▸ hFg
  · simp [invoke, go_sem, eg]
  rw [hB] at hlt hI hIx hbody hdone hstop
  have seq := hseq (B + 1) (fun pre O W => I pre O W ∧ B + 2 ≤ W.heap.size ∧ W.heap[B]? = some (.deferred (some [])) ∧ W.heap[B + 1]? = some (.loop (rec .ready none)))
    (fun W => Ix W ∧ W.heap[B]? = some (.deferred (some [])) ∧ W.heap[B + 1]? = some (.loop (rec .done (some .ret)))) V O0 vb
    (fun pre O W' h j hj => (hlt pre O W' h.1 j hj).1) (fun _ _ _ h => by rw [vs]; exact h.2.1) (fun _ _ _ h => hlen _ _ _ h.1) hO
  refine (seq ?_ ⟨by rw [← hV]; exact h0 _ _, by omega, vd, vl⟩).mono ?_
  · rintro pre x O W0 W1 hx ⟨hi, hs0, hd0, hl0⟩ hs1
    have hO0 := hlt pre O W0 hi
    have hl1 : W1.heap[B + 1]? = some (.loop (rec .ready none)) := (hs1.block _ (by omega)).trans hl0
    have hd1 : W1.heap[B]? = some (.deferred (some [])) := (hs1.block _ (by omega)).trans hd0
    have hlt1 : B + 1 < W1.heap.size := (Array.getElem?_eq_some_iff.1 hl1).1
    have hy := run_yield (P := P) (args := enc x) hl1 (by rw [hrec]; exact hps x)
    rw [hrec] at hy
    refine ⟨fn, _, assign, body, hy, roundIn_of_wpIn hfn (hassign _ x W1 _ ?_)⟩
    have ba := allocO_below W1 (obj x)
    obtain ⟨A, hA⟩ : ∃ A, allocO W1 (obj x) = A := ⟨_, rfl⟩
    rw [hA] at ba ⊢
    have hbody' := hbody (B + 1) pre x O W0 W1
    rw [hA] at hbody'
    have hla : A.heap[B + 1]? = some (.loop (rec .ready none)) := (ba.block _ hlt1).trans hl1
    have hda : A.heap[B]? = some (.deferred (some [])) := (ba.block _ (by omega)).trans hd1
    have hAs := ba.size
    refine ⟨_, run_beginRound hla (by rw [hrec]), ?_⟩
    obtain ⟨W2, hW2⟩ : ∃ W2, A.putObj (B + 1) (.loop { rec .ready none with state := .busy }) = W2 := ⟨_, rfl⟩
    have s12 : Same (· ≠ B + 1) A W2 := by rw [← hW2]; exact (Same.refl _ _).putObj _ (by simp)
    have z2 : W2.heap.size = A.heap.size := by rw [← hW2]; simp
    have hl2 : W2.heap[B + 1]? = some (.loop { rec .ready none with state := .busy }) := by rw [← hW2]; exact World.putObj_heap_same (by omega)
    have hd2 : W2.heap[B]? = some (.deferred (some [])) := s12.heap hda (by simp)
    rw [hW2]
    refine wpIn_mono (hbody' W2 hx hi hs0 hs1 s12 z2) ?_
    have fin : ∀ (jump : Option Code) (W3 : World), W3.heap[B + 1]? = some (.loop { rec .ready none with state := .busy }) →
        (Instr.endRound (B + 1) jump).run P W3 = .ok (.bool jump.isNone) (W3.putObj (B + 1) (.loop (rec (if jump.isNone then .ready else .done) jump))) := fun jump W3 h3 => by
      have e := run_endRound (P := P) jump h3
      rw [hrec] at e ⊢
      exact e
    rintro e a3 W3 hp
    cases e with
    | normal =>
      obtain ⟨O', hi3, hk3, hO'⟩ := hp
      have hnB : ¬ O B := fun h => (hO0 B h).2.1 rfl
      have hnB1 : ¬ O (B + 1) := fun h => (hO0 (B + 1) h).2.2 rfl
      have hl3 := hk3.heap hl2 hnB1
      have hd3 := hk3.heap hd2 hnB
      have hlt3 := (Array.getElem?_eq_some_iff.1 hl3).1
      have hl4 : (W3.putObj (B + 1) (.loop (rec .ready none))).heap[B + 1]? = some (.loop (rec .ready none)) := World.putObj_heap_same hlt3
      have hk4 : Same (· ≠ B + 1) W3 (W3.putObj (B + 1) (.loop (rec .ready none))) := (Same.refl _ _).putObj _ (by simp)
      have g2 := hk3.size
      have g4 := hk4.size
      refine ⟨_, _, fin none W3 hl3, .inl ⟨rfl, O', ⟨hI _ _ _ _ hi3 hk4 (by simp), by simp; omega, hk4.heap hd3 (by simp), hl4⟩, ?_, hO'⟩⟩
      refine ⟨hk4.os.trans (hk3.os.trans (s12.os.trans ba.os)), hk4.tape.trans (hk3.tape.trans (s12.tape.trans ba.tape)), hk4.output.trans (hk3.output.trans (s12.output.trans ba.output)), by simp; omega, fun j hj hkj => ?_⟩
      by_cases hjl : j = B + 1
      · subst hjl
        exact hl4.trans hl1.symm
      · exact (hk4.block j (by omega) hjl).trans ((hk3.block j (by omega) hkj).trans ((s12.block j (by omega) hjl).trans (ba.block _ hj)))
    | ret =>
      obtain ⟨hk3, hi3⟩ := hp
      have hl3 := hk3.heap hl2 (.inr rfl)
      have hd3 := hk3.heap hd2 (.inl rfl)
      have hk4 : Same (· ≠ B + 1) W3 (W3.putObj (B + 1) (.loop (rec .done (some .ret)))) := (Same.refl _ _).putObj _ (by simp)
      exact ⟨_, _, fin (some .ret) W3 hl3, .inr ⟨rfl, hIx _ _ hi3 hk4 (by simp), hk4.heap hd3 (by simp), World.putObj_heap_same (Array.getElem?_eq_some_iff.1 hl3).1⟩⟩
    | exit id => exact hp.elim
    | goto t => exact hp.elim
    | panic ch => exact hp.elim
    | outgrown => exact hp.elim
  · rintro e W2 ⟨⟨v, rfl⟩, (⟨O, W0, ⟨hi, hs0, hd, hl⟩, hs⟩ | ⟨hi, hd, hl⟩)⟩
    · have hl2 := (hs.block _ (by omega)).trans hl
      have hd2 := (hs.block _ (by omega)).trans hd
      refine ⟨none, _, by have e := run_endLoop (P := P) hl2 (by rw [hrec]; simp); rw [hrec] at e; exact e, ?_⟩
      have hk4 : Same (· ≠ B + 1) W2 (W2.putObj (B + 1) (.loop { rec .ready none with state := .exhausted })) := (Same.refl _ _).putObj _ (by simp)
      have r := hdone O W0 _ hi (((Same.of_below hs).mono (fun _ _ _ => trivial)).trans (hk4.mono (fun _ _ h => h))) (hk4.heap hd2 (by simp))
      rw [hrec] at r
      exact r
    · refine ⟨some .ret, _, by have e := run_endLoop (P := P) hl (by rw [hrec]; simp); rw [hrec] at e; exact e, ?_⟩
      have hk4 : Same (· ≠ B + 1) W2 (W2.putObj (B + 1) (.loop { rec .done (some .ret) with state := .exhausted })) := (Same.refl _ _).putObj _ (by simp)
      have r := hstop W2 _ hi (hk4.mono (fun _ _ h => h)) (hk4.heap hd (by simp))
      rw [hrec] at r
      exact r
end Go.Proofs.YtlbfnafniobnaaaDoor

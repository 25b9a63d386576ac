/- nodes: the iterator over all nodes of a term. -/
import Derived.Test.YtlbfnafniobnaaaDoorDlA
namespace Go.Proofs.YtlbfnafniobnaaaDoor
open Go.RowKit Go.Shelf
attribute [local go_sem] Oper.semAt_some

def TCells (t : Dl.T) : Array Value := #[.int .i64 t.kd, .int .i64 t.n, .int .i64 t.ev, .bool t.bz, .slice t.p t.kids.length t.cap]
theorem nodes_calls (t : Dl.T) (w : World) : Calls Tryd.prog 27 #[TV t] w fun e w' => e = .returned (.func (.func 55) #[] #[.pointer (some ⟨w.heap.size, 0, none⟩)]) ∧ w' = w.alloc (.cells (TCells t) 24) := by
  unfold TV TCells
  go_enter Tryd.func27, Tryd.ntmps27
  go_wp2_with fail
  go_ret
  exact ⟨rfl, rfl⟩
set_option maxRecDepth 100000 in
set_option maxHeartbeats 1000000 in
theorem nodes_in (n n₀ c : Nat) (t : Dl.T) (w : World) (hc : w.heap[c]? = some (.cells (TCells t) 24 (0, 0))) (hcn : n₀ ≤ c) (ht : TIn n₀ w t) :
    Gives Fence.wide n Tryd.prog 55 #[.pointer (some ⟨c, 0, none⟩)] (fun x => #[NV x]) (Dl.nds t 1) (fun j => j < n₀ ∨ j = c) w := by
  intro l J Jx W O0 hW hlt hsz hlen hO hY h0
  have hcl : c < w.heap.size := (Array.getElem?_eq_some_iff.1 hc).1
  have hdd : ∀ k : Nat, (Fence.wide.depth.isSome = true → 1 ≤ k) := fun k h => by cases h
  have hWs := hW.size
  have hcW : W.heap[c]? = some (.cells (TCells t) 24 (0, 0)) := (hW.block _ hcl).trans hc
  have hv := visit_in l n₀ (Dl.nds t 1) (fun pre O W' => J pre O W' ∧ (∀ j, O j → n₀ ≤ j) ∧ W.heap.size ≤ W'.heap.size) Jx
    (fun pre O W' h j hj => ⟨h.2.1 j hj, hlt _ _ _ h.1 j hj⟩) (fun pre O W' h => by have := h.2.2; omega) (fun pre O W' h => hlen _ _ _ h.1)
    (fun m pre x O W0 W1 hx hJ hb => yield_any rfl m (YieldAt.mono (hY pre x O W0 W1 hx hJ.1 hb) (fun e W' h => h.imp (fun ⟨he, O', h1, h2, h3⟩ => ⟨he, O', ⟨h1, fun j hj => (h3 j hj).elim (hJ.2.1 j) (fun k => by have := hJ.2.2; have := hb.size; omega), hsz _ _ _ h1⟩, h2, h3⟩) id)))
    t (n - 1) 1 [] O0 W W (by simp) (by simp) ⟨h0, fun j hj => Nat.le_of_not_lt (fun k => hO j hj (.inl k)), Nat.le_refl _⟩ (Below.refl _ _) (TIn.below (hW.mono (by omega)) t ht)
  have q0 : W.cell? ⟨c, 0, none⟩ = some (.int .i64 t.kd) := by simp [World.cell?, hcW, TCells]
  have q1 : W.cell? ⟨c, 1, none⟩ = some (.int .i64 t.n) := by simp [World.cell?, hcW, TCells]
  have q2 : W.cell? ⟨c, 2, none⟩ = some (.int .i64 t.ev) := by simp [World.cell?, hcW, TCells]
  have q3 : W.cell? ⟨c, 3, none⟩ = some (.bool t.bz) := by simp [World.cell?, hcW, TCells]
  have q4 : W.cell? ⟨c, 4, none⟩ = some (.slice t.p t.kids.length t.cap) := by simp [World.cell?, hcW, TCells]
  simp only [NV] at hv
  have HV := Lib.hid hv
  clear hv hlt hsz hlen hO hY h0 hcW hc ht
  refine callsIn_of_wp Tryd.func55 rfl trivial ?_ rfl
  simp only [Tryd.ntmps55, List.size_toArray, List.length_cons, List.length_nil, Nat.reduceAdd, Nat.reduceSub, Array.replicate_succ, Array.replicate_zero, List.push_toArray, List.append_toArray, List.nil_append, List.cons_append]
  gi_wp2
  refine ⟨trivial, hdd _, ?_⟩
  refine HV.out.mono ?_
  rintro e W1 (⟨rfl, O', W0, hJ, hb, _⟩ | ⟨rfl, hx⟩)
  · gi_wp2
    go_end0
    exact ⟨⟨_, rfl⟩, .inl ⟨O', W0, hJ.1, hb⟩⟩
  · gi_wp2
    go_end0
    exact ⟨⟨_, rfl⟩, .inr hx⟩
end Go.Proofs.YtlbfnafniobnaaaDoor

/- What Eval answers, in one form. -/
import Derived.Test.YtlbfnafniobnaaaDoorDlQ
namespace Go.Proofs.YtlbfnafniobnaaaDoor
open Go.RowKit Go.Shelf

/-- a day, whether it is known, an error number -/
def R3 (x : Int × Bool × Int) : Value := .tuple #[.int .i64 x.1, .bool x.2.1, .int .i64 x.2.2]
open Classical in
theorem eval_any (n₀ : Nat) (t : Dl.T) (c : Cal) (q : Option Addr) (capq : Nat) (l : List Wh) (w : World) (ht : TIn n₀ w t) (hn : n₀ ≤ w.heap.size) (hc : CalIn w c) (hl : EvAt w q l) (hl1 : l.length ≤ 1000) (hE : Env w) :
    Calls Tryd.prog 12 #[.agg #[.int .i64 t.kd, .int .i64 t.n, .int .i64 t.ev, .bool t.bz, .slice t.p t.kids.length t.cap], .agg #[.bool c.b0, .bool c.b1, .bool c.b2, .bool c.b3, .bool c.b4, .bool c.b5, .bool c.b6, .slice c.p c.hs.length c.cap], .slice q l.length capq] w fun e w' => e = .returned (R3 (evalS t c l)) ∧ Below w.heap.size w w' := by
  unfold evalS
  cases hv : decide (CalOK c) with
  | false =>
    rw [if_neg (fun h => of_decide_eq_false hv h.1)]
    exact eval_cal n₀ t c q capq l w ht hn hc hl hv
  | true =>
    cases hvt : validT t l.length with
    | false =>
      rw [if_neg (fun h => by cases h.2.1)]
      exact eval_term n₀ t c q capq l w ht hn hc hl hv hvt
    | true =>
      cases hg : goodE l with
      | false =>
        rw [if_neg (fun h => by cases h.2.2)]
        exact eval_events n₀ t c q capq l w ht hn hc hl hl1 hv hvt hg
      | true =>
        rw [if_pos ⟨of_decide_eq_true hv, rfl, rfl⟩]
        cases hkn : ((evT t).any fun i => !(knownAt l i)) with
        | true =>
          rw [if_pos rfl]
          exact eval_unknown n₀ t c q capq l w ht hn hc hl hv hvt hg hkn
        | false =>
          rw [if_neg (by simp)]
          refine (eval_in n₀ t c q capq l w ht hn hc hl hv hvt hg hkn hE).mono ?_
          rintro e w' ⟨rfl, hb⟩
          refine ⟨?_, hb⟩
          unfold evR R3
          by_cases h0 : (runS c l (rev t) []).2 = 0
          · rw [if_pos h0, if_pos h0]
          · rw [if_neg h0, if_neg h0]
end Go.Proofs.YtlbfnafniobnaaaDoor

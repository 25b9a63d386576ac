/- Terms of layer 5 as data: a node with its kids and where they lie; all nodes in the order in which they are visited. -/
import Derived.RowKit
namespace Go.Proofs.YtlbfnafniobnaaaDoor
namespace Dl

/-- a term: its fields, the address and the room of its kids, and the kids -/
inductive T where
  | node (kd n ev : Int) (bz : Bool) (p : Option Addr) (cap : Nat) (kids : List T)
namespace T
def kd : T → Int | .node a _ _ _ _ _ _ => a
def n : T → Int | .node _ a _ _ _ _ _ => a
def ev : T → Int | .node _ _ a _ _ _ _ => a
def bz : T → Bool | .node _ _ _ a _ _ _ => a
def p : T → Option Addr | .node _ _ _ _ a _ _ => a
def cap : T → Nat | .node _ _ _ _ _ a _ => a
def kids : T → List T | .node _ _ _ _ _ _ a => a
end T
mutual
/-- the nodes, each before its kids, with their depths -/
def nds : T → Nat → List (T × Nat)
  | .node a b c e p q l, d => (.node a b c e p q l, d) :: ndsL l (d + 1)
def ndsL : List T → Nat → List (T × Nat)
  | [], _ => []
  | k :: l, d => nds k d ++ ndsL l d
end
theorem nds_node (kd n ev : Int) (bz : Bool) (p : Option Addr) (cap : Nat) (kids : List T) (d : Nat) : nds (.node kd n ev bz p cap kids) d = (.node kd n ev bz p cap kids, d) :: ndsL kids (d + 1) := by rw [nds]
theorem nds_eq (t : T) (d : Nat) : nds t d = (t, d) :: ndsL t.kids (d + 1) := by
  cases t
  rw [nds]
  rfl
theorem ndsL_append : ∀ (a b : List T) (d : Nat), ndsL (a ++ b) d = ndsL a d ++ ndsL b d
  | [], _, _ => rfl
  | k :: a, b, d => by rw [List.cons_append, ndsL, ndsL, ndsL_append a b d, List.append_assoc]
theorem ndsL_take {l : List T} {j : Nat} {k : T} (h : l[j]? = some k) (d : Nat) : ndsL (l.take (j + 1)) d = ndsL (l.take j) d ++ nds k d := by
  rw [List.take_add_one, h, ndsL_append]
  congr 1
  rw [Option.toList, ndsL, ndsL, List.append_nil]
theorem nds_pos (t : T) (d : Nat) : 1 ≤ (nds t d).length := by
  rw [nds_eq]
  simp
theorem ndsL_le : ∀ (l : List T) (d : Nat), l.length ≤ (ndsL l d).length
  | [], _ => Nat.zero_le _
  | k :: l, d => by
    have := ndsL_le l d
    have := nds_pos k d
    rw [ndsL, List.length_append, List.length_cons]
    omega
/-- induction over the kids -/
theorem T.ind {P : T → Prop} (h : ∀ t : T, (∀ k ∈ t.kids, P k) → P t) : ∀ t, P t
  | .node a b c e p q l => h _ (fun k _hk => T.ind h k)
termination_by t => SizeOf.sizeOf t
decreasing_by
  have := List.sizeOf_lt_of_mem _hk
  simp only [T.kids] at this
  simp only [T.node.sizeOf_spec]
  omega
end Dl
end Go.Proofs.YtlbfnafniobnaaaDoor

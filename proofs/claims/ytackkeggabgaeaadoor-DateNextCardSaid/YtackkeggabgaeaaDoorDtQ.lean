/- What the functions answer of a calendar, each as one function of its arguments. -/
import Derived.Test.YtackkeggabgaeaaDoorDtL
namespace Go.Proofs.YtackkeggabgaeaaDoor
open Go.RowKit

/-- what Count, Add, Next and Business answer of a calendar, in whatever world that holds its holidays -/
def CalS (b0 b1 b2 b3 b4 b5 b6 : Bool) (p : Option Addr) (n cap : Nat) (hs : List Int) (FC FA : Int → Int → Int × Int) (FN : Int → Int × Int) (FB : Int → Bool) : Prop :=
  ∀ w, Hols w p hs →
    (∀ a b : Int, Calls Tryd.prog 18 #[.agg #[.bool b0, .bool b1, .bool b2, .bool b3, .bool b4, .bool b5, .bool b6, .slice p n cap], .int .i64 a, .int .i64 b] w fun e w' => e = .returned (IV (FC a b)) ∧ Below w.heap.size w w') ∧
    (∀ a m : Int, Calls Tryd.prog 17 #[.agg #[.bool b0, .bool b1, .bool b2, .bool b3, .bool b4, .bool b5, .bool b6, .slice p n cap], .int .i64 a, .int .i64 m] w fun e w' => e = .returned (IV (FA a m)) ∧ Below w.heap.size w w') ∧
    (∀ a : Int, Calls Tryd.prog 14 #[.agg #[.bool b0, .bool b1, .bool b2, .bool b3, .bool b4, .bool b5, .bool b6, .slice p n cap], .int .i64 a] w fun e w' => e = .returned (IV (FN a)) ∧ Below w.heap.size w w') ∧
    (∀ a : Int, Calls Tryd.prog 16 #[.agg #[.bool b0, .bool b1, .bool b2, .bool b3, .bool b4, .bool b5, .bool b6, .slice p n cap], .int .i64 a] w fun e w' => e = .returned (.bool (FB a)) ∧ Below w.heap.size w w')
theorem cal_ex (b0 b1 b2 b3 b4 b5 b6 : Bool) (p : Option Addr) (n cap : Nat) (hs : List Int) (hn : hs.length = n) :
    ∃ FC FA FN FB, CalS b0 b1 b2 b3 b4 b5 b6 p n cap hs FC FA FN FB ∧
      (VP b0 b1 b2 b3 b4 b5 b6 hs → (∀ a b : Nat, a ≤ b → b ≤ 73048 → FC a b = (Dt.cnt (Dt.wk b0 b1 b2 b3 b4 b5 b6) hs b - Dt.cnt (Dt.wk b0 b1 b2 b3 b4 b5 b6) hs a, 0)) ∧ (∀ a : Nat, a ≤ 73048 → ∀ m, 0 ≤ m → FA a m = Dt.add (Dt.wk b0 b1 b2 b3 b4 b5 b6) hs a m) ∧ (∀ a : Nat, a ≤ 73048 → FN a = Dt.add (Dt.wk b0 b1 b2 b3 b4 b5 b6) hs a 0) ∧ (∀ a : Nat, a ≤ 73048 → FB a = Dt.busy (Dt.wk b0 b1 b2 b3 b4 b5 b6) hs a)) ∧
      (∀ a b, ¬ (VP b0 b1 b2 b3 b4 b5 b6 hs ∧ 0 ≤ a ∧ a ≤ 73048 ∧ 0 ≤ b ∧ b ≤ 73048 ∧ a ≤ b) → FC a b = (0, 1)) ∧ (∀ a m, ¬ (VP b0 b1 b2 b3 b4 b5 b6 hs ∧ 0 ≤ a ∧ a ≤ 73048 ∧ 0 ≤ m) → FA a m = (0, 1)) ∧ (∀ a, ¬ (VP b0 b1 b2 b3 b4 b5 b6 hs ∧ 0 ≤ a ∧ a ≤ 73048) → FN a = (0, 1)) ∧ (∀ a, ¬ (VP b0 b1 b2 b3 b4 b5 b6 hs ∧ 0 ≤ a ∧ a ≤ 73048) → FB a = false) := by
  classical
  refine ⟨fun a b => if VP b0 b1 b2 b3 b4 b5 b6 hs ∧ 0 ≤ a ∧ a ≤ 73048 ∧ 0 ≤ b ∧ b ≤ 73048 ∧ a ≤ b then (Dt.cnt (Dt.wk b0 b1 b2 b3 b4 b5 b6) hs b.toNat - Dt.cnt (Dt.wk b0 b1 b2 b3 b4 b5 b6) hs a.toNat, 0) else (0, 1),
    fun a m => if VP b0 b1 b2 b3 b4 b5 b6 hs ∧ 0 ≤ a ∧ a ≤ 73048 ∧ 0 ≤ m then Dt.add (Dt.wk b0 b1 b2 b3 b4 b5 b6) hs a.toNat m else (0, 1),
    fun a => if VP b0 b1 b2 b3 b4 b5 b6 hs ∧ 0 ≤ a ∧ a ≤ 73048 then Dt.add (Dt.wk b0 b1 b2 b3 b4 b5 b6) hs a.toNat 0 else (0, 1),
    fun a => if VP b0 b1 b2 b3 b4 b5 b6 hs ∧ 0 ≤ a ∧ a ≤ 73048 then Dt.busy (Dt.wk b0 b1 b2 b3 b4 b5 b6) hs a.toNat else false, ?_, ?_, ?_, ?_, ?_, ?_⟩
  · intro w hh
    refine ⟨fun a b => ?_, fun a m => ?_, fun a => ?_, fun a => ?_⟩
    · dsimp only
      split
      · rename_i h
        have := count_in b0 b1 b2 b3 b4 b5 b6 p n cap hs a.toNat b.toNat w hn hh h.1 (by omega) (by omega)
        rwa [show ((a.toNat : Nat) : Int) = a by omega, show ((b.toNat : Nat) : Int) = b by omega] at this
      · rename_i h
        exact count_arg b0 b1 b2 b3 b4 b5 b6 p n cap hs a b w hn hh h
    · dsimp only
      split
      · rename_i h
        have := add_valid b0 b1 b2 b3 b4 b5 b6 p n cap hs a.toNat m w hn hh h.1 (by omega) h.2.2.2
        rwa [show ((a.toNat : Nat) : Int) = a by omega] at this
      · rename_i h
        exact add_arg b0 b1 b2 b3 b4 b5 b6 p n cap hs a m w hn hh h
    · dsimp only
      split
      · rename_i h
        have := next_valid b0 b1 b2 b3 b4 b5 b6 p n cap hs a.toNat w hn hh h.1 (by omega)
        rwa [show ((a.toNat : Nat) : Int) = a by omega] at this
      · rename_i h
        exact next_arg b0 b1 b2 b3 b4 b5 b6 p n cap hs a w hn hh h
    · dsimp only
      split
      · rename_i h
        have := business_in b0 b1 b2 b3 b4 b5 b6 p n cap hs a.toNat w hn h.1 hh (by omega)
        rwa [show ((a.toNat : Nat) : Int) = a by omega] at this
      · rename_i h
        by_cases hv : VP b0 b1 b2 b3 b4 b5 b6 hs
        · exact business_out b0 b1 b2 b3 b4 b5 b6 p n cap hs a w hn hv hh (fun hd => h ⟨hv, hd.1, hd.2⟩)
        · exact business_bad b0 b1 b2 b3 b4 b5 b6 p n cap hs a w hn hv hh
  · intro hv
    refine ⟨fun a b h1 h2 => ?_, fun a h1 m h2 => ?_, fun a h1 => ?_, fun a h1 => ?_⟩
    · exact if_pos ⟨hv, by omega, by omega, by omega, by omega, by omega⟩
    · exact if_pos ⟨hv, by omega, by omega, h2⟩
    · exact if_pos ⟨hv, by omega, by omega⟩
    · exact if_pos ⟨hv, by omega, by omega⟩
  · intro a b h; exact if_neg h
  · intro a m h; exact if_neg h
  · intro a h; exact if_neg h
  · intro a h; exact if_neg h
end Go.Proofs.YtackkeggabgaeaaDoor

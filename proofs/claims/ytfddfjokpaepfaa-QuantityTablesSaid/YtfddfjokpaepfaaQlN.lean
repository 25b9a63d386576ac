/- QuantityTables: the law, all cases; a text that came in. -/
import Derived.Test.YtfddfjokpaepfaaQlM
import Derived.ProofKit
import Derived.OpenShut
import Derived.ChangeSame
namespace Go.Proofs.Ytfddfjokpaepfaa
open Go.RowKit

open Go.WideShapes in
theorem open_text {H : Type} {enc : TypeId × Value → H} {W : World} {base : Nat} {sp : Nat → Bool} {held : Bool} {b0 : Nat} {v : Value} {d : DataW H} {p : List MemPlace} (h : Value.okWide Try.prog W .any base 9 v) (h0 : DataW.Trod enc Try.prog W b0 sp held 9 v d p) : ∃ t : List UInt8, v = .string ⟨t.toArray⟩ := by
  obtain ⟨s, rfl⟩ := okWide_string Try.underlying9 h
  exact ⟨s.data.toList, by simp⟩
theorem tables_law (p : Option Addr) (cap : Nat) (us : List Qn.Un) (tx : List UInt8) (b : Int) (w : World) (ht : Tab w p us) (hcap : us.length ≤ cap) (hb0 : 0 ≤ b) (hb1 : b ≤ 255) :
    Calls Try.prog 4 #[.slice p us.length cap, .string ⟨tx.toArray⟩, .int .u8 b] w fun e w' => e = .returned (.bool true) ∧ Below w.heap.size w w' := by
  cases hs : smallB us 0
  · exact tables_big p cap us tx b w ht hs
  cases hn : ((us.length : Int) == 0)
  rotate_left
  · exact tables_nil p cap us tx b w ht hs hn
  by_cases h1 : 20 < us.length
  · exact tables_long p cap us tx b w ht hs hn h1
  by_cases h2 : 100 < tx.length
  · exact tables_text p cap us tx b w ht hs hn (by omega) h2
  have hnz : 0 < us.length := by have := beq_eq_false_iff_ne.1 hn; omega
  have hp := ht.2
  rcases hp with rfl | ⟨bp, offp, rfl, _⟩
  · simp at hnz
  have e1 : 0 ≤ b % (us.length : Int) := Int.emod_nonneg _ (by omega)
  have e2 : b % (us.length : Int) < us.length := Int.emod_lt_of_pos _ (by omega)
  exact tables_go bp offp cap us tx b (b % (us.length : Int)).toNat (Qn.validS us).1 (Qn.validS us).2 w ht hcap hs hb0 hb1 hn hnz (by omega) (by omega) (by omega) (by omega) rfl
end Go.Proofs.Ytfddfjokpaepfaa

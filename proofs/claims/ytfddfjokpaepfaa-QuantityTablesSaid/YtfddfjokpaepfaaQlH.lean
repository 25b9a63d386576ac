/- QuantitySums: the law, all cases; a nil list's room. -/
import Derived.Test.YtfddfjokpaepfaaQlG
import Derived.ProofKit
import Derived.OpenShut
import Derived.ChangeSame
namespace Go.Proofs.Ytfddfjokpaepfaa
open Go.RowKit

theorem nil_amounts {H : Type} {enc : TypeId × Value → H} {W : World} {sp : Nat → Bool} {held : Bool} {b0 n c : Nat} {q : Option Addr} {d : DataW H} {p : List MemPlace} (h0 : DataW.Trod enc Try.prog W b0 sp held 23 (.slice q n c) d p) : q = none → c = 0 := by
  rintro rfl
  obtain ⟨fuel, hf⟩ := h0
  rcases DataW.trod_slice Try.underlying23 hf with ⟨hcs, _⟩ | ⟨a, len, cap, elems, rest, m, _, hcs, _⟩
  · simp [Value.cells] at hcs
    exact hcs.2
  · simp [Value.cells] at hcs
theorem sums_law (p : Option Addr) (cap : Nat) (us : List Qn.Un) (q r : Option Addr) (capl capm : Nat) (l m : List Qn.Am) (tt : Int) (w : World) (ht : Tab w p us) (hcap : us.length ≤ cap) (hl : Amts w q l) (hm : Amts w r m) (hq0 : q = none → capl = 0) (hr0 : r = none → capm = 0) :
    Calls Try.prog 8 #[.slice p us.length cap, .slice q l.length capl, .slice r m.length capm, .int .i64 tt] w fun e w' => e = .returned (.bool true) ∧ Below w.heap.size w w' := by
  cases hs : smallB us l.length
  · exact sums_big p cap us q r capl capm l m tt w ht hl hm hs
  by_cases h1 : 30 < l.length
  · exact sums_l p cap us q r capl capm l m tt w ht hl hm hs h1
  by_cases h2 : 30 < m.length
  · exact sums_m p cap us q r capl capm l m tt w ht hl hm hs (by omega) h2
  obtain ⟨ab, ar, e, ha⟩ : ∃ b r e, Qn.sumS us l tt = (b, r, e) := ⟨_, _, _, rfl⟩
  obtain ⟨bb, br, f, hb⟩ : ∃ b r e, Qn.sumS us m tt = (b, r, e) := ⟨_, _, _, rfl⟩
  obtain ⟨cb1, cr, g, hc⟩ : ∃ b r e, Qn.sumS us (l ++ m) tt = (b, r, e) := ⟨_, _, _, rfl⟩
  exact sums_go p cap us q r capl capm l m tt (l ++ m) ab bb cb1 e f g ar br cr w ht hcap hl hm hs (by omega) (by omega) hq0 hr0 rfl ha hb hc
end Go.Proofs.Ytfddfjokpaepfaa

/- What Parse returns: no program in it. -/
import Derived.Test.YtmdgccnpcmjpbaaDoorRtMath2
import Derived.Lib.AtoiAllCases
namespace Go.Proofs.YtmdgccnpcmjpbaaDoor.Rt
def ratP (t : List UInt8) : Lib.NumEnd Int → Lib.NumEnd Int → Int × Int × Int
  | .ok n, .ok d => if Ok n d ∧ textS n d = t then (n, d, 0) else (0, 0, 5)
  | _, _ => (0, 0, 5)
theorem ratP_oo (t : List UInt8) (n d : Int) : ratP t (.ok n) (.ok d) = if Ok n d ∧ textS n d = t then (n, d, 0) else (0, 0, 5) := rfl
def lowP (c : List UInt8 × List UInt8 × Bool) : List UInt8 := if c.2.2 then c.2.1 else [49]
theorem cut_len {l a b : List UInt8} {f : Bool} (h : Lib.cut l [47] = (a, b, f)) : a.length ≤ l.length ∧ b.length ≤ l.length := by
  unfold Lib.cut at h
  split at h
  · simp only [Prod.mk.injEq] at h
    obtain ⟨rfl, rfl, _⟩ := h
    exact ⟨List.length_take_le' _ _, by simp⟩
  · simp only [Prod.mk.injEq] at h
    obtain ⟨rfl, rfl, _⟩ := h
    simp
/-- what Parse returns for a text -/
def parseS (t : List UInt8) : Int × Int × Int := ratP t (Lib.atoiAll (Lib.cut t [47]).1) (Lib.atoiAll (lowP (Lib.cut t [47])))
end Go.Proofs.YtmdgccnpcmjpbaaDoor.Rt

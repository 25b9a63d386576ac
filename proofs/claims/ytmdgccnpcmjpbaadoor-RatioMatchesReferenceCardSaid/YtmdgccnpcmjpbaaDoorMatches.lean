/- RatioMatchesReference: for every input the law returns true, and its arguments read as they did; the row, and its tied card. No condition. -/
import Derived.Test.YtmdgccnpcmjpbaaDoorRfP
import Derived.Test.YtmdgccnpcmjpbaaDoorRtP
import Derived.Test.YtmdgccnpcmjpbaaDoorRfR
namespace Go.Proofs.YtmdgccnpcmjpbaaDoor
open Go.ChangeShapes Go.WideShapes Go.ChangeAt Go.WideMaps Go.WideElems Go.RowKit
open Go.ChangeMaps (open_string shut_string)

set_option maxRecDepth 100000 in
theorem ratioMatchesReference_lifted (os : Os) (started : os.Started) (H : Type) (enc : TypeId × Value → H) :
    ReturnsInHanded {} Tryd.checked os 3 .any (fun w args => (Rows.ratioMatchesReferenceSpec.pre enc Tryd.prog Tryd.f3 [] false w args ∧ laidMetH Tryd.prog laid5 w) ∧ sizedMet enc Tryd.prog Tryd.f3 (OpenSpec.ofChange Rows.ratioMatchesReferenceSpec) false w args)
      (Rows.ratioMatchesReferenceSpec.post enc Tryd.prog Tryd.f3 false true false false) := by
  refine law_wrap started (by kernel_rfl) Tryd.func3
    (ChangeSpec.witness_shaped (enc := enc) (C := Tryd.checked) (os := os) (X := fun w _ => laidMetH Tryd.prog laid5 w) false (World.doorLaid Tryd.prog 400 os) #[.agg #[.int .i64 0, .int .i64 0], .agg #[.int .i64 0, .int .i64 0], .agg #[.int .i64 0, .int .i64 0, .int .i64 0, .string ⟨#[]⟩]] 8 rfl (start_shaped os _) (by kernel_rfl) (by kernel_rfl) (by kernel_rfl) (door_met os _)) ?_
  intro W base args ds gs before hval hW hE
  have hW' := hW
  obtain ⟨p, q, hA0, hV, rfl, _, _⟩ := hW
  have hA : DataW.TrodAll enc Tryd.prog W 0 (fun _ => true) true Tryd.f3.params.toList args.toList ds p := hA0
  rw [Tryd.params3] at hA hval
  obtain ⟨v0, v1, v2, d0, d1, d2, p0, p1, p2, rfl, rfl, rfl, h0, h1, h2⟩ := trodAll_three hA
  obtain ⟨rfl, rfl⟩ := trodVars_none hV
  obtain ⟨x0, y0, rfl, rfl, rfl, wx0, wy0⟩ := open_rat (hval 0 23 v0 rfl rfl) h0
  have bx0 := bd_i64 wx0
  have by0 := bd_i64 wy0
  obtain ⟨x1, y1, rfl, rfl, rfl, wx1, wy1⟩ := open_rat (hval 1 23 v1 rfl rfl) h1
  have bx1 := bd_i64 wx1
  have by1 := bd_i64 wy1
  obtain ⟨x2, y2, z2, t2, rfl, rfl, rfl, wx2, wy2, wz2, wt2⟩ := open_raw (hval 2 25 v2 rfl rfl) h2
  have bx2 := bd_i64 wx2
  have by2 := bd_i64 wy2
  have bz2 := bd_i64 wz2
  simp only [List.append_nil] at hW'
  refine (matches_law x0 y0 x1 y1 x2 y2 z2 t2 W bx0.1 bx0.2 by0.1 by0.2 bx1.1 bx1.2 by1.1 by1.2 bx2.1 bx2.2 by2.1 by2.2 bz2.1 bz2.2 hE).mono fun e W' ⟨he, hb⟩ => ?_
  subst he
  refine ⟨_, rfl, _, _, _, [], [], [], hW', ?_, ?_, rfl, hb.frame _, fun h => by cases h⟩
  · exact trodAll_mk1 (shut_bool Tryd.underlying4 _)
  · exact trodAll_mk3 (shut_rat wx0 wy0) (shut_rat wx1 wy1) (shut_raw wx2 wy2 wz2 wt2)
theorem ratioMatchesReference_row : Rows.RatioMatchesReferenceSaid :=
  OpenClaim.holds_of_wide 3 Tryd.f3 rfl rfl rfl rfl rfl rfl rfl ⟨rfl, rfl, rfl, rfl, rfl⟩ rfl rfl rfl rfl rfl (by kernel_rfl) Tryd.func3 (by kernel_rfl)
    (of_decide_eq_true (by kernel_rfl)) (by unfold Func.isWrapper; first | (rw [if_pos (by decide +kernel)]; kernel_rfl) | (rw [if_neg (by decide +kernel)]; exact ⟨rfl, rfl⟩))
    (fun os started H enc _ => ratioMatchesReference_lifted os started H enc)
/-- the tied card -/
theorem ratioMatchesReference_card : Rows.RatioMatchesReferenceCardSaid :=
  Claim7.holds_tied_plain_at .later [] [.data, .data, .data, .sentinel, .sentinel] true _ true
    ratioMatchesReference_row (fun _ h => by cases h) (by kernel_rfl) (fun _ h => by cases h) ratioMatchesReference_row_tie rfl ⟨rfl, rfl⟩ (by kernel_rfl) rfl
    (fun f fn hf hfn => by
      obtain rfl : f = 3 := Option.some.inj ((show Tryd.prog.funcNamed Rows.ratioMatchesReferenceRow.func = some 3 by kernel_rfl).symm.trans hf) |>.symm
      obtain rfl : fn = Tryd.f3 := (Option.some.inj (Tryd.func3.symm.trans hfn)).symm
      exact ⟨by kernel_rfl, fun j t ht => by
        rw [Tryd.params3] at ht
        have hm : t ∈ [23, 23, 25] := by simpa using Array.mem_of_getElem? ht
        have hall : ([23, 23, 25].all fun u => !Tryd.prog.wantsStandIn u) = true := by kernel_rfl
        exact (show Tryd.prog.wantsStandIn t = false by simpa using List.all_eq_true.1 hall t hm)⟩)
    (by kernel_rfl)
end Go.Proofs.YtmdgccnpcmjpbaaDoor

/- LexerAgain: the law's walk. -/
import Derived.Test.YtedeodeejpaioaaDoorLxN
namespace Go.Proofs.YtedeodeejpaioaaDoor
open Go.RowKit

set_option maxRecDepth 100000 in
set_option maxHeartbeats 3200000 in
theorem again_long (s : List UInt8) (w : World) (hl : 3000 < s.length) (hE : Env w) :
    Calls Tryd.prog 5 #[.string ⟨s.toArray⟩] w fun e w' => e = .returned (.bool true) ∧ Below w.heap.size w w' := by
  have hs := text_size s
  have b1 : decide (3000 < (s.length : Int)) = true := by simp; omega
  have HEV0 := Lib.hid hE
  clear hE
  go_enter Tryd.func5, Tryd.ntmps5
  go_wp2_with fail
  refine (head_any _ (HEV0.out.below (by repeat (first | exact Below.refl _ _ | assumption | refine below_drewN ?_ _ | refine Below.setCell ?_ (by first | (simp; done) | (simp; omega)) _ | refine Below.alloc ?_ (by first | (simp; done) | (simp; omega) | omega) _ | refine Below.drew ?_ | refine Below.trans ?_ (Below.mono (by assumption) (by first | (simp; done) | (simp; omega) | omega)))))).mono ?_
  rintro e w1 ⟨rfl, hb1⟩
  have hz1 := hb1.size
  (try simp at hz1)
  have bb1 : Below w.heap.size w w1 := (by repeat (first | exact Below.refl _ _ | assumption | refine below_drewN ?_ _ | refine Below.setCell ?_ (by first | (simp; done) | (simp; omega)) _ | refine Below.alloc ?_ (by first | (simp; done) | (simp; omega) | omega) _ | refine Below.drew ?_ | refine Below.trans ?_ (Below.mono (by assumption) (by first | (simp; done) | (simp; omega) | omega))))
  have BE1 := Lib.hid (show Below w.heap.size w w1 from bb1)
  have HEV1 := Lib.hid (HEV0.out.below bb1)
  clear hb1 bb1 HEV0
  go_wp2_with fail
  go_ret
  exact ⟨rfl, (by have q := BE1.out; repeat (first | exact q | refine Below.setCell ?_ (by first | (simp; done) | omega | (simp; omega)) _ | refine Below.alloc ?_ (by first | (simp; done) | omega | (simp; omega)) _ | refine below_drewN ?_ _ | refine Below.drew ?_))⟩
set_option maxRecDepth 100000 in
set_option maxHeartbeats 3200000 in
theorem again_err (s : List UInt8) (er o : Int) (w : World) (hl : s.length ≤ 3000) (hL : Lx.lexAll s = ([], er, o)) (h0 : er ≠ 0) (hE : Env w) :
    Calls Tryd.prog 5 #[.string ⟨s.toArray⟩] w fun e w' => e = .returned (.bool true) ∧ Below w.heap.size w w' := by
  have hs := text_size s
  have b1 : decide (3000 < (s.length : Int)) = false := by simp; omega
  have HL := Lib.hid hL
  clear hL
  have b2 : (er != 0) = true := by simpa using h0
  have HEV0 := Lib.hid hE
  clear hE
  go_enter Tryd.func5, Tryd.ntmps5
  go_wp2_with fail
  refine (head_any _ (HEV0.out.below (by repeat (first | exact Below.refl _ _ | assumption | refine below_drewN ?_ _ | refine Below.setCell ?_ (by first | (simp; done) | (simp; omega)) _ | refine Below.alloc ?_ (by first | (simp; done) | (simp; omega) | omega) _ | refine Below.drew ?_ | refine Below.trans ?_ (Below.mono (by assumption) (by first | (simp; done) | (simp; omega) | omega)))))).mono ?_
  rintro e w1 ⟨rfl, hb1⟩
  have hz1 := hb1.size
  (try simp at hz1)
  have bb1 : Below w.heap.size w w1 := (by repeat (first | exact Below.refl _ _ | assumption | refine below_drewN ?_ _ | refine Below.setCell ?_ (by first | (simp; done) | (simp; omega)) _ | refine Below.alloc ?_ (by first | (simp; done) | (simp; omega) | omega) _ | refine Below.drew ?_ | refine Below.trans ?_ (Below.mono (by assumption) (by first | (simp; done) | (simp; omega) | omega))))
  have BE1 := Lib.hid (show Below w.heap.size w w1 from bb1)
  have HEV1 := Lib.hid (HEV0.out.below bb1)
  clear hb1 bb1 HEV0
  go_wp2_with fail
  refine (lex_any s _ (HEV1.out.below (by repeat (first | exact Below.refl _ _ | assumption | refine below_drewN ?_ _ | refine Below.setCell ?_ (by first | (simp; done) | (simp; omega)) _ | refine Below.alloc ?_ (by first | (simp; done) | (simp; omega) | omega) _ | refine Below.drew ?_ | refine Below.trans ?_ (Below.mono (by assumption) (by first | (simp; done) | (simp; omega) | omega))))) (by omega)).mono ?_
  rintro e w2 ⟨⟨q2, cap2, rfl, hc2, hm2, ht2⟩, hb2⟩
  rw [HL.out] at hc2 ht2
  simp only [HL.out]
  (try simp only at hc2 ht2)
  have hz2 := hb2.size
  (try simp at hz2)
  have bb2 : Below w1.heap.size w1 w2 := (by repeat (first | exact Below.refl _ _ | assumption | refine below_drewN ?_ _ | refine Below.setCell ?_ (by first | (simp; done) | (simp; omega)) _ | refine Below.alloc ?_ (by first | (simp; done) | (simp; omega) | omega) _ | refine Below.drew ?_ | refine Below.trans ?_ (Below.mono (by assumption) (by first | (simp; done) | (simp; omega) | omega))))
  have BE2 := Lib.hid (show Below w.heap.size w w2 from BE1.out.trans (bb2.mono BE1.out.size))
  have HEV2 := Lib.hid (HEV1.out.below bb2)
  clear hb2 bb2 HEV1 BE1
  clear ht2
  go_wp2_with fail
  go_ret
  exact ⟨rfl, (by have q := BE2.out; repeat (first | exact q | refine Below.setCell ?_ (by first | (simp; done) | omega | (simp; omega)) _ | refine Below.alloc ?_ (by first | (simp; done) | omega | (simp; omega)) _ | refine below_drewN ?_ _ | refine Below.drew ?_))⟩
set_option maxRecDepth 100000 in
set_option maxHeartbeats 3200000 in
theorem again_ok (s : List UInt8) (l m : List Lx.Tk) (t : List UInt8) (w : World) (hl : s.length ≤ 3000) (hL : Lx.lexAll s = (l, 0, 0)) (hll : l.length ≤ 3000) (ht : textL [32] l = t) (htl : t.length ≤ 6000) (hM : Lx.lexAll t = (m, 0, 0)) (hlm : l.length = m.length) (hx : ∀ (k : Nat) x y, l[k]? = some x → m[k]? = some y → Lx.bare x = Lx.bare y) (hE : Env w) :
    Calls Tryd.prog 5 #[.string ⟨s.toArray⟩] w fun e w' => e = .returned (.bool true) ∧ Below w.heap.size w w' := by
  have hs := text_size s
  have b1 : decide (3000 < (s.length : Int)) = false := by simp; omega
  have HL := Lib.hid hL
  clear hL
  have HM := Lib.hid hM
  have HT := Lib.hid ht
  have HTL := Lib.hid (show (textL [32] l).length ≤ 4294967280 by rw [ht]; omega)
  have HLM := Lib.hid hlm
  have HX := Lib.hid hx
  clear hM ht hlm hx
  have HEV0 := Lib.hid hE
  clear hE
  go_enter Tryd.func5, Tryd.ntmps5
  go_wp2_with fail
  refine (head_any _ (HEV0.out.below (by repeat (first | exact Below.refl _ _ | assumption | refine below_drewN ?_ _ | refine Below.setCell ?_ (by first | (simp; done) | (simp; omega)) _ | refine Below.alloc ?_ (by first | (simp; done) | (simp; omega) | omega) _ | refine Below.drew ?_ | refine Below.trans ?_ (Below.mono (by assumption) (by first | (simp; done) | (simp; omega) | omega)))))).mono ?_
  rintro e w1 ⟨rfl, hb1⟩
  have hz1 := hb1.size
  (try simp at hz1)
  have bb1 : Below w.heap.size w w1 := (by repeat (first | exact Below.refl _ _ | assumption | refine below_drewN ?_ _ | refine Below.setCell ?_ (by first | (simp; done) | (simp; omega)) _ | refine Below.alloc ?_ (by first | (simp; done) | (simp; omega) | omega) _ | refine Below.drew ?_ | refine Below.trans ?_ (Below.mono (by assumption) (by first | (simp; done) | (simp; omega) | omega))))
  have BE1 := Lib.hid (show Below w.heap.size w w1 from bb1)
  have HEV1 := Lib.hid (HEV0.out.below bb1)
  clear hb1 bb1 HEV0
  go_wp2_with fail
  refine (lex_any s _ (HEV1.out.below (by repeat (first | exact Below.refl _ _ | assumption | refine below_drewN ?_ _ | refine Below.setCell ?_ (by first | (simp; done) | (simp; omega)) _ | refine Below.alloc ?_ (by first | (simp; done) | (simp; omega) | omega) _ | refine Below.drew ?_ | refine Below.trans ?_ (Below.mono (by assumption) (by first | (simp; done) | (simp; omega) | omega))))) (by omega)).mono ?_
  rintro e w2 ⟨⟨q2, cap2, rfl, hc2, hm2, ht2⟩, hb2⟩
  rw [HL.out] at hc2 ht2
  simp only [HL.out]
  (try simp only at hc2 ht2)
  have hz2 := hb2.size
  (try simp at hz2)
  have bb2 : Below w1.heap.size w1 w2 := (by repeat (first | exact Below.refl _ _ | assumption | refine below_drewN ?_ _ | refine Below.setCell ?_ (by first | (simp; done) | (simp; omega)) _ | refine Below.alloc ?_ (by first | (simp; done) | (simp; omega) | omega) _ | refine Below.drew ?_ | refine Below.trans ?_ (Below.mono (by assumption) (by first | (simp; done) | (simp; omega) | omega))))
  have BE2 := Lib.hid (show Below w.heap.size w w2 from BE1.out.trans (bb2.mono BE1.out.size))
  have HEV2 := Lib.hid (HEV1.out.below bb2)
  have HA2 := Lib.hid ht2
  clear hb2 bb2 HEV1 BE1
  clear ht2
  go_wp2_with fail
  refine (text_any q2 cap2 l [32] _ (HA2.out.below (by repeat (first | exact Below.refl _ _ | assumption | refine below_drewN ?_ _ | refine Below.setCell ?_ (by first | (simp; done) | (simp; omega)) _ | refine Below.alloc ?_ (by first | (simp; done) | (simp; omega) | omega) _ | refine Below.drew ?_ | refine Below.trans ?_ (Below.mono (by assumption) (by first | (simp; done) | (simp; omega) | omega))))) (by omega) HTL.out (by decide)).mono ?_
  rintro e w' ⟨rfl, rfl⟩
  rw [HT.out]
  go_wp2_with fail
  refine (lex_any t _ (HEV2.out.below (by repeat (first | exact Below.refl _ _ | assumption | refine below_drewN ?_ _ | refine Below.setCell ?_ (by first | (simp; done) | (simp; omega)) _ | refine Below.alloc ?_ (by first | (simp; done) | (simp; omega) | omega) _ | refine Below.drew ?_ | refine Below.trans ?_ (Below.mono (by assumption) (by first | (simp; done) | (simp; omega) | omega))))) (by omega)).mono ?_
  rintro e w3 ⟨⟨q3, cap3, rfl, hc3, hm3, ht3⟩, hb3⟩
  rw [HM.out] at hc3 ht3
  simp only [HM.out]
  (try simp only at hc3 ht3)
  have hz3 := hb3.size
  (try simp at hz3)
  have bb3 : Below w2.heap.size w2 w3 := (by repeat (first | exact Below.refl _ _ | assumption | refine below_drewN ?_ _ | refine Below.setCell ?_ (by first | (simp; done) | (simp; omega)) _ | refine Below.alloc ?_ (by first | (simp; done) | (simp; omega) | omega) _ | refine Below.drew ?_ | refine Below.trans ?_ (Below.mono (by assumption) (by first | (simp; done) | (simp; omega) | omega))))
  have BE3 := Lib.hid (show Below w.heap.size w w3 from BE2.out.trans (bb3.mono BE2.out.size))
  have HEV3 := Lib.hid (HEV2.out.below bb3)
  have HA3 := Lib.hid (HA2.out.below bb3)
  have HB3 := Lib.hid ht3
  clear hb3 bb3 HEV2 HA2 BE2
  clear ht3
  go_wp2_with fail
  refine (alike_true q2 q3 cap2 cap3 l m _ (HA3.out.below (by repeat (first | exact Below.refl _ _ | assumption | refine below_drewN ?_ _ | refine Below.setCell ?_ (by first | (simp; done) | (simp; omega)) _ | refine Below.alloc ?_ (by first | (simp; done) | (simp; omega) | omega) _ | refine Below.drew ?_ | refine Below.trans ?_ (Below.mono (by assumption) (by first | (simp; done) | (simp; omega) | omega))))) (HB3.out.below (by repeat (first | exact Below.refl _ _ | assumption | refine below_drewN ?_ _ | refine Below.setCell ?_ (by first | (simp; done) | (simp; omega)) _ | refine Below.alloc ?_ (by first | (simp; done) | (simp; omega) | omega) _ | refine Below.drew ?_ | refine Below.trans ?_ (Below.mono (by assumption) (by first | (simp; done) | (simp; omega) | omega))))) HLM.out (by omega) HX.out).mono ?_
  rintro e w' ⟨rfl, nd, rfl⟩
  go_wp2_with fail
  go_ret
  exact ⟨rfl, (by have q := BE3.out; repeat (first | exact q | refine Below.setCell ?_ (by first | (simp; done) | omega | (simp; omega)) _ | refine Below.alloc ?_ (by first | (simp; done) | omega | (simp; omega)) _ | refine below_drewN ?_ _ | refine Below.drew ?_))⟩
theorem text_again (l : List Lx.Tk) : textL [32] l = Lx.againS (l.map Lx.bare) := by
  unfold textL Lx.againS
  rw [List.flatMap_map]
  rfl
theorem bare_at {l m : List Lx.Tk} (h : m.map Lx.bare = l.map Lx.bare) : l.length = m.length ∧ ∀ (k : Nat) x y, l[k]? = some x → m[k]? = some y → Lx.bare x = Lx.bare y := by
  refine ⟨by have := congrArg List.length h; rw [List.length_map, List.length_map] at this; exact this.symm, fun k x y hx hy => ?_⟩
  have h2 := congrArg (fun z => z[k]?) h
  simp only [List.getElem?_map, hx, hy, Option.map_some, Option.some.injEq] at h2
  exact h2.symm
theorem again_law (s : List UInt8) (w : World) (hE : Env w) : Calls Tryd.prog 5 #[.string ⟨s.toArray⟩] w fun e w' => e = .returned (.bool true) ∧ Below w.heap.size w w' := by
  rcases Nat.lt_or_ge 3000 s.length with hl | hl
  · exact again_long s w hl hE
  · rcases Lx.all_cases (s := s) (by omega) with ⟨l, h1, h2⟩ | ⟨er, k, h0, h1, h2, h3⟩
    · obtain ⟨c1, c2, m, c3, c4⟩ := Lx.again_all hl h2
      rw [← text_again] at c2 c3
      obtain ⟨d1, d2⟩ := bare_at c4
      exact again_ok s l m _ w hl h1 (by omega) rfl c2 c3 d1 d2 hE
    · exact again_err s er k w hl h1 h0 hE
end Go.Proofs.YtedeodeejpaioaaDoor

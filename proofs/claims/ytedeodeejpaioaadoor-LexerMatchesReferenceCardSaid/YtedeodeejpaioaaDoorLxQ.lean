/- LexerMatchesReference: the law's walk. -/
import Derived.Test.YtedeodeejpaioaaDoorLxN
namespace Go.Proofs.YtedeodeejpaioaaDoor
open Go.RowKit

set_option maxRecDepth 100000 in
set_option maxHeartbeats 3200000 in
theorem match_long (s : List UInt8) (w : World) (hl : 3000 < s.length) (hE : Env w) :
    Calls Tryd.prog 3 #[.string ⟨s.toArray⟩] w fun e w' => e = .returned (.bool true) ∧ Below w.heap.size w w' := by
  have hs := text_size s
  have b1 : decide (3000 < (s.length : Int)) = true := by simp; omega
  have HEV0 := Lib.hid hE
  clear hE
  go_enter Tryd.func3, Tryd.ntmps3
  go_wp2_with fail
  refine (head_any _ (HEV0.out.below (by repeat (first | exact Below.refl _ _ | assumption | refine below_drewN ?_ _ | refine Below.setCell ?_ (by first | (simp; done) | (simp; omega)) _ | refine Below.alloc ?_ (by first | (simp; done) | (simp; omega) | omega) _ | refine Below.drew ?_ | refine Below.trans ?_ (Below.mono (by assumption) (by first | (simp; done) | (simp; omega) | omega)))))).mono ?_
  rintro e w1 ⟨rfl, hb1⟩
  have hz1 := hb1.size
  (try simp at hz1)
  have bb1 : Below w.heap.size w w1 := (by repeat (first | exact Below.refl _ _ | assumption | refine below_drewN ?_ _ | refine Below.setCell ?_ (by first | (simp; done) | (simp; omega)) _ | refine Below.alloc ?_ (by first | (simp; done) | (simp; omega) | omega) _ | refine Below.drew ?_ | refine Below.trans ?_ (Below.mono (by assumption) (by first | (simp; done) | (simp; omega) | omega))))
  have BE1 := Lib.hid (show Below w.heap.size w w1 from bb1)
  have HEV1 := Lib.hid (HEV0.out.below bb1)
  clear hb1 bb1 HEV0
  go_wp2_with fail
  go_ret
  exact ⟨rfl, (by have q := BE1.out; repeat (first | exact q | refine Below.setCell ?_ (by first | (simp; done) | omega | (simp; omega)) _ | refine Below.alloc ?_ (by first | (simp; done) | omega | (simp; omega)) _ | refine below_drewN ?_ _ | refine Below.drew ?_))⟩
theorem same_zero (p q : Option Addr) (c d : Nat) (a : List Lx.Tk) (w : World) (hp : Toks w p a) (hq : Toks w q a) (hm : a.length ≤ 4294967280) (ho : ∀ x ∈ a, x.off ≤ 4294967280) :
    Calls Tryd.prog 13 #[.slice p a.length c, .int .i64 0, .slice q a.length d] w fun e w' => e = .returned (.bool true) ∧ ∃ n, w' = w.drewN n :=
  same_true p q c d a a 0 w hp hq rfl hm (fun k x y hx hy => by rw [hx] at hy; cases hy; exact ⟨rfl, rfl⟩) ho (by omega)
set_option maxRecDepth 100000 in
set_option maxHeartbeats 3200000 in
theorem match_short (s : List UInt8) (l : List Lx.Tk) (er o : Int) (w : World) (hl : s.length ≤ 3000) (hL : Lx.lexAll s = (l, er, o)) (h5 : l.length ≤ 4294967280) (ho : ∀ x ∈ l, x.off ≤ 4294967280) (hE : Env w) :
    Calls Tryd.prog 3 #[.string ⟨s.toArray⟩] w fun e w' => e = .returned (.bool true) ∧ Below w.heap.size w w' := by
  have hs := text_size s
  have b1 : decide (3000 < (s.length : Int)) = false := by simp; omega
  have HL := Lib.hid hL
  have H5 := Lib.hid h5
  have HO := Lib.hid ho
  clear hL ho h5
  have HEV0 := Lib.hid hE
  clear hE
  go_enter Tryd.func3, Tryd.ntmps3
  go_wp2_with fail
  refine (head_any _ (HEV0.out.below (by repeat (first | exact Below.refl _ _ | assumption | refine below_drewN ?_ _ | refine Below.setCell ?_ (by first | (simp; done) | (simp; omega)) _ | refine Below.alloc ?_ (by first | (simp; done) | (simp; omega) | omega) _ | refine Below.drew ?_ | refine Below.trans ?_ (Below.mono (by assumption) (by first | (simp; done) | (simp; omega) | omega)))))).mono ?_
  rintro e w1 ⟨rfl, hb1⟩
  have hz1 := hb1.size
  (try simp at hz1)
  have bb1 : Below w.heap.size w w1 := (by repeat (first | exact Below.refl _ _ | assumption | refine below_drewN ?_ _ | refine Below.setCell ?_ (by first | (simp; done) | (simp; omega)) _ | refine Below.alloc ?_ (by first | (simp; done) | (simp; omega) | omega) _ | refine Below.drew ?_ | refine Below.trans ?_ (Below.mono (by assumption) (by first | (simp; done) | (simp; omega) | omega))))
  have BE1 := Lib.hid (show Below w.heap.size w w1 from bb1)
  have HEV1 := Lib.hid (HEV0.out.below bb1)
  clear hb1 bb1 HEV0
  go_wp2_with fail
  refine (lex_any s _ (HEV1.out.below (by repeat (first | exact Below.refl _ _ | assumption | refine below_drewN ?_ _ | refine Below.setCell ?_ (by first | (simp; done) | (simp; omega)) _ | refine Below.alloc ?_ (by first | (simp; done) | (simp; omega) | omega) _ | refine Below.drew ?_ | refine Below.trans ?_ (Below.mono (by assumption) (by first | (simp; done) | (simp; omega) | omega))))) (by omega)).mono ?_
  rintro e w2 ⟨⟨q2, cap2, rfl, hc2, hm2, ht2⟩, hb2⟩
  rw [HL.out] at hc2 ht2
  simp only [HL.out]
  (try simp only at hc2 ht2)
  have hz2 := hb2.size
  (try simp at hz2)
  have bb2 : Below w1.heap.size w1 w2 := (by repeat (first | exact Below.refl _ _ | assumption | refine below_drewN ?_ _ | refine Below.setCell ?_ (by first | (simp; done) | (simp; omega)) _ | refine Below.alloc ?_ (by first | (simp; done) | (simp; omega) | omega) _ | refine Below.drew ?_ | refine Below.trans ?_ (Below.mono (by assumption) (by first | (simp; done) | (simp; omega) | omega))))
  have BE2 := Lib.hid (show Below w.heap.size w w2 from BE1.out.trans (bb2.mono BE1.out.size))
  have HEV2 := Lib.hid (HEV1.out.below bb2)
  have HA2 := Lib.hid ht2
  clear hb2 bb2 HEV1 BE1
  clear ht2
  go_wp2_with fail
  refine (rlex_any s _ (by omega)).mono ?_
  rintro e w3 ⟨⟨q3, cap3, rfl, hc3, hm3, ht3⟩, hb3⟩
  rw [HL.out] at hc3 ht3
  simp only [HL.out]
  (try simp only at hc3 ht3)
  have hz3 := hb3.size
  (try simp at hz3)
  have bb3 : Below w2.heap.size w2 w3 := (by repeat (first | exact Below.refl _ _ | assumption | refine below_drewN ?_ _ | refine Below.setCell ?_ (by first | (simp; done) | (simp; omega)) _ | refine Below.alloc ?_ (by first | (simp; done) | (simp; omega) | omega) _ | refine Below.drew ?_ | refine Below.trans ?_ (Below.mono (by assumption) (by first | (simp; done) | (simp; omega) | omega))))
  have BE3 := Lib.hid (show Below w.heap.size w w3 from BE2.out.trans (bb3.mono BE2.out.size))
  have HEV3 := Lib.hid (HEV2.out.below bb3)
  have HA3 := Lib.hid (HA2.out.below bb3)
  have HB3 := Lib.hid ht3
  clear hb3 bb3 HEV2 HA2 BE2
  clear ht3
  go_wp2_with fail
  refine (same_zero q2 q3 cap2 cap3 l _ HA3.out HB3.out H5.out HO.out).mono ?_
  rintro e w' ⟨rfl, nd, rfl⟩
  go_wp2_with fail
  go_ret
  exact ⟨rfl, (by have q := BE3.out; repeat (first | exact q | refine Below.setCell ?_ (by first | (simp; done) | omega | (simp; omega)) _ | refine Below.alloc ?_ (by first | (simp; done) | omega | (simp; omega)) _ | refine below_drewN ?_ _ | refine Below.drew ?_))⟩
theorem match_law (s : List UInt8) (w : World) (hE : Env w) : Calls Tryd.prog 3 #[.string ⟨s.toArray⟩] w fun e w' => e = .returned (.bool true) ∧ Below w.heap.size w w' := by
  rcases Nat.lt_or_ge 3000 s.length with hl | hl
  · exact match_long s w hl hE
  · rcases Lx.all_cases (s := s) (by omega) with ⟨l, h1, h2⟩ | ⟨er, k, h0, h1, h2, h3⟩
    · have hc := Lx.lexU_count s 0
      rw [h2] at hc
      exact match_short s l 0 0 w hl h1 (by simp only at hc; omega) (fun x hx => by have := (Lx.all_chain h2).offs x hx; omega) hE
    · exact match_short s [] er k w hl h1 (by simp) (fun x hx => by cases hx) hE
end Go.Proofs.YtedeodeejpaioaaDoor

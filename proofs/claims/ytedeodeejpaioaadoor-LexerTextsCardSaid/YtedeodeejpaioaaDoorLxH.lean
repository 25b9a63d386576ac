/- The fixed examples. -/
import Derived.Test.YtedeodeejpaioaaDoorLxG
namespace Go.Proofs.YtedeodeejpaioaaDoor
open Go.RowKit

namespace Lx
theorem lexU_cons {s : List B} {kd v : Int} {g n a : Nat} {l : List Tk} (h : stepS s = .tok kd g n v) (h' : lexU (s.drop (g + n)) (a + g + n) = (l, 0, 0)) : lexU s a = (⟨kd, (s.drop g).take n, v, a + g⟩ :: l, 0, 0) := by
  rw [lexU_tok h, h', if_pos rfl]
theorem lexU_fail {s : List B} {kd v e o : Int} {g n a : Nat} (h : stepS s = .tok kd g n v) (h' : lexU (s.drop (g + n)) (a + g + n) = ([], e, o)) (he : e ≠ 0) : lexU s a = ([], e, o) := by
  rw [lexU_tok h, h', if_neg he]
theorem ex_one : lexAll [100, 117, 116, 121, 32, 97, 46, 98, 32, 111, 102, 32, 120, 58] = ([⟨1, [100, 117, 116, 121], 0, 0⟩, ⟨1, [97, 46, 98], 0, 5⟩, ⟨1, [111, 102], 0, 9⟩, ⟨1, [120], 0, 12⟩, ⟨3, [58], 0, 13⟩], 0, 0) :=
  (lexAll_small (by decide)).trans (lexU_cons (kd := 1) (g := 0) (n := 4) (v := 0) rfl (lexU_cons (kd := 1) (g := 1) (n := 3) (v := 0) rfl (lexU_cons (kd := 1) (g := 1) (n := 2) (v := 0) rfl (lexU_cons (kd := 1) (g := 1) (n := 1) (v := 0) rfl (lexU_cons (kd := 3) (g := 0) (n := 1) (v := 0) rfl (lexU_done rfl _))))))
theorem ex_two : lexAll [49, 50, 32, 35, 32, 51] = ([⟨2, [49, 50], 12, 0⟩], 0, 0) :=
  (lexAll_small (by decide)).trans (lexU_cons (kd := 2) (g := 0) (n := 2) (v := 12) rfl (lexU_done rfl _))
theorem ex_three : lexAll [97, 46] = ([], 4, 1) :=
  (lexAll_small (by decide)).trans (lexU_fail (kd := 1) (g := 0) (n := 1) (v := 0) rfl (lexU_bad (e := 4) (g := 0) rfl _) (by decide))
theorem ex_four : lexAll [55, 120] = ([], 5, 0) :=
  (lexAll_small (by decide)).trans (lexU_bad (e := 5) (g := 0) rfl _)
end Lx
set_option maxRecDepth 100000 in
set_option maxHeartbeats 3200000 in
theorem head_any (w : World) (hE : Env w) : Calls Tryd.prog 10 #[] w fun e w' => e = .returned (.bool true) ∧ Below w.heap.size w w' := by
  have HEV0 := Lib.hid hE
  clear hE
  go_enter Tryd.func10, Tryd.ntmps10
  go_wp2_with fail
  refine (lex_any [100, 117, 116, 121, 32, 97, 46, 98, 32, 111, 102, 32, 120, 58] _ (HEV0.out.below (by repeat (first | exact Below.refl _ _ | assumption | refine below_drewN ?_ _ | refine Below.setCell ?_ (by first | (simp; done) | (simp; omega)) _ | refine Below.alloc ?_ (by first | (simp; done) | (simp; omega) | omega) _ | refine Below.drew ?_ | refine Below.trans ?_ (Below.mono (by assumption) (by first | (simp; done) | (simp; omega) | omega))))) (by decide)).mono ?_
  rintro e w1 ⟨⟨q1, cap1, rfl, _, _, ht1⟩, hb1⟩
  rw [Lx.ex_one] at ht1
  simp only [Lx.ex_one]
  have hz1 := hb1.size
  (try simp at hz1)
  have bb1 : Below w.heap.size w w1 := (by repeat (first | exact Below.refl _ _ | assumption | refine below_drewN ?_ _ | refine Below.setCell ?_ (by first | (simp; done) | (simp; omega)) _ | refine Below.alloc ?_ (by first | (simp; done) | (simp; omega) | omega) _ | refine Below.drew ?_ | refine Below.trans ?_ (Below.mono (by assumption) (by first | (simp; done) | (simp; omega) | omega))))
  have HEV1 := Lib.hid (HEV0.out.below bb1)
  obtain ⟨b1, o1, rfl, k1, _⟩ := ht1.at (j := 1) rfl
  obtain ⟨b1', o1', he1, k4, _⟩ := ht1.at (j := 4) rfl
  cases he1
  have K1 := Lib.hid k1
  have K4 := Lib.hid k4
  have BE1 := Lib.hid bb1
  clear ht1 hb1 bb1 k1 k4 HEV0
  go_wp2_with fail
  refine (lex_any [49, 50, 32, 35, 32, 51] _ (HEV1.out.below (by repeat (first | exact Below.refl _ _ | assumption | refine below_drewN ?_ _ | refine Below.setCell ?_ (by first | (simp; done) | (simp; omega)) _ | refine Below.alloc ?_ (by first | (simp; done) | (simp; omega) | omega) _ | refine Below.drew ?_ | refine Below.trans ?_ (Below.mono (by assumption) (by first | (simp; done) | (simp; omega) | omega))))) (by decide)).mono ?_
  rintro e w2 ⟨⟨q2, cap2, rfl, _, _, ht2⟩, hb2⟩
  rw [Lx.ex_two] at ht2
  simp only [Lx.ex_two]
  have hz2 := hb2.size
  (try simp at hz2)
  have bb2 : Below w1.heap.size w1 w2 := (by repeat (first | exact Below.refl _ _ | assumption | refine below_drewN ?_ _ | refine Below.setCell ?_ (by first | (simp; done) | (simp; omega)) _ | refine Below.alloc ?_ (by first | (simp; done) | (simp; omega) | omega) _ | refine Below.drew ?_ | refine Below.trans ?_ (Below.mono (by assumption) (by first | (simp; done) | (simp; omega) | omega))))
  have HEV2 := Lib.hid (HEV1.out.below bb2)
  obtain ⟨b2, o2, rfl, k2, _⟩ := ht2.at (j := 0) rfl
  have K12 := Lib.hid (K1.out.below bb2)
  have K42 := Lib.hid (K4.out.below bb2)
  have K2 := Lib.hid k2
  have BE2 := Lib.hid (BE1.out.trans (bb2.mono BE1.out.size))
  clear ht2 hb2 bb2 k2 K1 K4 BE1 HEV1
  go_wp2_with fail
  refine (lex_any [97, 46] _ (HEV2.out.below (by repeat (first | exact Below.refl _ _ | assumption | refine below_drewN ?_ _ | refine Below.setCell ?_ (by first | (simp; done) | (simp; omega)) _ | refine Below.alloc ?_ (by first | (simp; done) | (simp; omega) | omega) _ | refine Below.drew ?_ | refine Below.trans ?_ (Below.mono (by assumption) (by first | (simp; done) | (simp; omega) | omega))))) (by decide)).mono ?_
  rintro e w3 ⟨⟨q3, cap3, rfl, _, _, ht3⟩, hb3⟩
  rw [Lx.ex_three] at ht3
  simp only [Lx.ex_three]
  have hz3 := hb3.size
  (try simp at hz3)
  have bb3 : Below w2.heap.size w2 w3 := (by repeat (first | exact Below.refl _ _ | assumption | refine below_drewN ?_ _ | refine Below.setCell ?_ (by first | (simp; done) | (simp; omega)) _ | refine Below.alloc ?_ (by first | (simp; done) | (simp; omega) | omega) _ | refine Below.drew ?_ | refine Below.trans ?_ (Below.mono (by assumption) (by first | (simp; done) | (simp; omega) | omega))))
  have HEV3 := Lib.hid (HEV2.out.below bb3)
  have K13 := Lib.hid (K12.out.below bb3)
  have K43 := Lib.hid (K42.out.below bb3)
  have K23 := Lib.hid (K2.out.below bb3)
  have BE3 := Lib.hid (BE2.out.trans (bb3.mono BE2.out.size))
  clear ht3 hb3 bb3 K12 K42 K2 BE2 HEV2
  go_wp2_with fail
  refine (lex_any [55, 120] _ (HEV3.out.below (by repeat (first | exact Below.refl _ _ | assumption | refine below_drewN ?_ _ | refine Below.setCell ?_ (by first | (simp; done) | (simp; omega)) _ | refine Below.alloc ?_ (by first | (simp; done) | (simp; omega) | omega) _ | refine Below.drew ?_ | refine Below.trans ?_ (Below.mono (by assumption) (by first | (simp; done) | (simp; omega) | omega))))) (by decide)).mono ?_
  rintro e w4 ⟨⟨q4, cap4, rfl, _, _, ht4⟩, hb4⟩
  rw [Lx.ex_four] at ht4
  simp only [Lx.ex_four]
  have hz4 := hb4.size
  (try simp at hz4)
  have bb4 : Below w3.heap.size w3 w4 := (by repeat (first | exact Below.refl _ _ | assumption | refine below_drewN ?_ _ | refine Below.setCell ?_ (by first | (simp; done) | (simp; omega)) _ | refine Below.alloc ?_ (by first | (simp; done) | (simp; omega) | omega) _ | refine Below.drew ?_ | refine Below.trans ?_ (Below.mono (by assumption) (by first | (simp; done) | (simp; omega) | omega))))
  have HEV4 := Lib.hid (HEV3.out.below bb4)
  obtain ⟨a0, a1, a2, a3⟩ := K13.out.below bb4
  obtain ⟨d0, d1, d2, d3⟩ := K43.out.below bb4
  obtain ⟨f0, f1, f2, f3⟩ := K23.out.below bb4
  rw [Nat.zero_mul, Nat.add_zero] at f0 f1 f2 f3
  have BE4 := Lib.hid (BE3.out.trans (bb4.mono BE3.out.size))
  clear ht4 hb4 bb4 K13 K43 K23 BE3 HEV3 HEV4
  go_wp2_with fail
  go_ret
  exact ⟨rfl, BE4.out⟩
end Go.Proofs.YtedeodeejpaioaaDoor

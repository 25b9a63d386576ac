/- LexerGaps: the law's walk. -/
import Derived.Test.YtedeodeejpaioaaDoorLxR
namespace Go.Proofs.YtedeodeejpaioaaDoor
open Go.RowKit

set_option maxRecDepth 100000 in
set_option maxHeartbeats 3200000 in
theorem gaps_long (s g : List UInt8) (h : Nat) (w : World) (hl : 1500 < s.length) (hE : Env w) :
    Calls Tryd.prog 8 #[.string ⟨s.toArray⟩, .string ⟨g.toArray⟩, .int .u16 (h : Int)] w fun e w' => e = .returned (.bool true) ∧ Below w.heap.size w w' := by
  have hs := text_size s
  have hg := text_size g
  have b1 : decide (1500 < (s.length : Int)) = true := by simp; omega
  have HEV0 := Lib.hid hE
  clear hE
  go_enter Tryd.func8, Tryd.ntmps8
  go_wp2_with fail
  refine (head_any _ (HEV0.out.below (by repeat (first | exact Below.refl _ _ | assumption | refine below_drewN ?_ _ | refine Below.setCell ?_ (by first | (simp; done) | (simp; omega)) _ | refine Below.alloc ?_ (by first | (simp; done) | (simp; omega) | omega) _ | refine Below.drew ?_ | refine Below.trans ?_ (Below.mono (by assumption) (by first | (simp; done) | (simp; omega) | omega)))))).mono ?_
  rintro e w1 ⟨rfl, hb1⟩
  have hz1 := hb1.size
  (try simp at hz1)
  have bb1 : Below w.heap.size w w1 := (by repeat (first | exact Below.refl _ _ | assumption | refine below_drewN ?_ _ | refine Below.setCell ?_ (by first | (simp; done) | (simp; omega)) _ | refine Below.alloc ?_ (by first | (simp; done) | (simp; omega) | omega) _ | refine Below.drew ?_ | refine Below.trans ?_ (Below.mono (by assumption) (by first | (simp; done) | (simp; omega) | omega))))
  have BE1 := Lib.hid (show Below w.heap.size w w1 from bb1)
  have HEV1 := Lib.hid (HEV0.out.below bb1)
  clear hb1 bb1 HEV0
  go_wp2_with fail
  go_ret
  exact ⟨rfl, (by have q := BE1.out; repeat (first | exact q | refine Below.setCell ?_ (by first | (simp; done) | omega | (simp; omega)) _ | refine Below.alloc ?_ (by first | (simp; done) | omega | (simp; omega)) _ | refine below_drewN ?_ _ | refine Below.drew ?_))⟩
set_option maxRecDepth 100000 in
set_option maxHeartbeats 3200000 in
theorem gaps_long2 (s g : List UInt8) (h : Nat) (w : World) (hl : s.length ≤ 1500) (hl2 : 300 < g.length) (hE : Env w) :
    Calls Tryd.prog 8 #[.string ⟨s.toArray⟩, .string ⟨g.toArray⟩, .int .u16 (h : Int)] w fun e w' => e = .returned (.bool true) ∧ Below w.heap.size w w' := by
  have hs := text_size s
  have hg := text_size g
  have b1 : decide (1500 < (s.length : Int)) = false := by simp; omega
  have b2 : decide (300 < (g.length : Int)) = true := by simp; omega
  have HEV0 := Lib.hid hE
  clear hE
  go_enter Tryd.func8, Tryd.ntmps8
  go_wp2_with fail
  refine (head_any _ (HEV0.out.below (by repeat (first | exact Below.refl _ _ | assumption | refine below_drewN ?_ _ | refine Below.setCell ?_ (by first | (simp; done) | (simp; omega)) _ | refine Below.alloc ?_ (by first | (simp; done) | (simp; omega) | omega) _ | refine Below.drew ?_ | refine Below.trans ?_ (Below.mono (by assumption) (by first | (simp; done) | (simp; omega) | omega)))))).mono ?_
  rintro e w1 ⟨rfl, hb1⟩
  have hz1 := hb1.size
  (try simp at hz1)
  have bb1 : Below w.heap.size w w1 := (by repeat (first | exact Below.refl _ _ | assumption | refine below_drewN ?_ _ | refine Below.setCell ?_ (by first | (simp; done) | (simp; omega)) _ | refine Below.alloc ?_ (by first | (simp; done) | (simp; omega) | omega) _ | refine Below.drew ?_ | refine Below.trans ?_ (Below.mono (by assumption) (by first | (simp; done) | (simp; omega) | omega))))
  have BE1 := Lib.hid (show Below w.heap.size w w1 from bb1)
  have HEV1 := Lib.hid (HEV0.out.below bb1)
  clear hb1 bb1 HEV0
  go_wp2_with fail
  go_ret
  exact ⟨rfl, (by have q := BE1.out; repeat (first | exact q | refine Below.setCell ?_ (by first | (simp; done) | omega | (simp; omega)) _ | refine Below.alloc ?_ (by first | (simp; done) | omega | (simp; omega)) _ | refine below_drewN ?_ _ | refine Below.drew ?_))⟩
set_option maxRecDepth 100000 in
set_option maxHeartbeats 3200000 in
theorem gaps_not (s g : List UInt8) (h : Nat) (w : World) (hl : s.length ≤ 1500) (hl2 : g.length ≤ 300) (hgn : ¬ Lx.gapN g false = g.length) (hE : Env w) :
    Calls Tryd.prog 8 #[.string ⟨s.toArray⟩, .string ⟨g.toArray⟩, .int .u16 (h : Int)] w fun e w' => e = .returned (.bool true) ∧ Below w.heap.size w w' := by
  have hs := text_size s
  have hg := text_size g
  have b1 : decide (1500 < (s.length : Int)) = false := by simp; omega
  have b2 : decide (300 < (g.length : Int)) = false := by simp; omega
  have HG := Lib.hid (decide_eq_false hgn)
  clear hgn
  have HEV0 := Lib.hid hE
  clear hE
  go_enter Tryd.func8, Tryd.ntmps8
  go_wp2_with fail
  refine (head_any _ (HEV0.out.below (by repeat (first | exact Below.refl _ _ | assumption | refine below_drewN ?_ _ | refine Below.setCell ?_ (by first | (simp; done) | (simp; omega)) _ | refine Below.alloc ?_ (by first | (simp; done) | (simp; omega) | omega) _ | refine Below.drew ?_ | refine Below.trans ?_ (Below.mono (by assumption) (by first | (simp; done) | (simp; omega) | omega)))))).mono ?_
  rintro e w1 ⟨rfl, hb1⟩
  have hz1 := hb1.size
  (try simp at hz1)
  have bb1 : Below w.heap.size w w1 := (by repeat (first | exact Below.refl _ _ | assumption | refine below_drewN ?_ _ | refine Below.setCell ?_ (by first | (simp; done) | (simp; omega)) _ | refine Below.alloc ?_ (by first | (simp; done) | (simp; omega) | omega) _ | refine Below.drew ?_ | refine Below.trans ?_ (Below.mono (by assumption) (by first | (simp; done) | (simp; omega) | omega))))
  have BE1 := Lib.hid (show Below w.heap.size w w1 from bb1)
  have HEV1 := Lib.hid (HEV0.out.below bb1)
  clear hb1 bb1 HEV0
  go_wp2_with fail
  refine (gaps_any g _ (by omega)).mono ?_
  rintro e w' ⟨rfl, rfl⟩
  rw [HG.out]
  go_wp2_with fail
  go_ret
  exact ⟨rfl, (by have q := BE1.out; repeat (first | exact q | refine Below.setCell ?_ (by first | (simp; done) | omega | (simp; omega)) _ | refine Below.alloc ?_ (by first | (simp; done) | omega | (simp; omega)) _ | refine below_drewN ?_ _ | refine Below.drew ?_))⟩
set_option maxRecDepth 100000 in
set_option maxHeartbeats 3200000 in
theorem gaps_err (s g : List UInt8) (h : Nat) (er o : Int) (w : World) (hl : s.length ≤ 1500) (hl2 : g.length ≤ 300) (hgy : Lx.gapN g false = g.length) (hL : Lx.lexAll s = ([], er, o)) (h0 : er ≠ 0) (hE : Env w) :
    Calls Tryd.prog 8 #[.string ⟨s.toArray⟩, .string ⟨g.toArray⟩, .int .u16 (h : Int)] w fun e w' => e = .returned (.bool true) ∧ Below w.heap.size w w' := by
  have hs := text_size s
  have hg := text_size g
  have b1 : decide (1500 < (s.length : Int)) = false := by simp; omega
  have b2 : decide (300 < (g.length : Int)) = false := by simp; omega
  have HG := Lib.hid (decide_eq_true hgy)
  have HL := Lib.hid hL
  clear hgy hL
  have b3 : (er != 0) = true := by simpa using h0
  have HEV0 := Lib.hid hE
  clear hE
  go_enter Tryd.func8, Tryd.ntmps8
  go_wp2_with fail
  refine (head_any _ (HEV0.out.below (by repeat (first | exact Below.refl _ _ | assumption | refine below_drewN ?_ _ | refine Below.setCell ?_ (by first | (simp; done) | (simp; omega)) _ | refine Below.alloc ?_ (by first | (simp; done) | (simp; omega) | omega) _ | refine Below.drew ?_ | refine Below.trans ?_ (Below.mono (by assumption) (by first | (simp; done) | (simp; omega) | omega)))))).mono ?_
  rintro e w1 ⟨rfl, hb1⟩
  have hz1 := hb1.size
  (try simp at hz1)
  have bb1 : Below w.heap.size w w1 := (by repeat (first | exact Below.refl _ _ | assumption | refine below_drewN ?_ _ | refine Below.setCell ?_ (by first | (simp; done) | (simp; omega)) _ | refine Below.alloc ?_ (by first | (simp; done) | (simp; omega) | omega) _ | refine Below.drew ?_ | refine Below.trans ?_ (Below.mono (by assumption) (by first | (simp; done) | (simp; omega) | omega))))
  have BE1 := Lib.hid (show Below w.heap.size w w1 from bb1)
  have HEV1 := Lib.hid (HEV0.out.below bb1)
  clear hb1 bb1 HEV0
  go_wp2_with fail
  refine (gaps_any g _ (by omega)).mono ?_
  rintro e w' ⟨rfl, rfl⟩
  rw [HG.out]
  go_wp2_with fail
  refine (lex_any s _ (HEV1.out.below (by repeat (first | exact Below.refl _ _ | assumption | refine below_drewN ?_ _ | refine Below.setCell ?_ (by first | (simp; done) | (simp; omega)) _ | refine Below.alloc ?_ (by first | (simp; done) | (simp; omega) | omega) _ | refine Below.drew ?_ | refine Below.trans ?_ (Below.mono (by assumption) (by first | (simp; done) | (simp; omega) | omega))))) (by omega)).mono ?_
  rintro e w2 ⟨⟨q2, cap2, rfl, hc2, hm2, ht2⟩, hb2⟩
  rw [HL.out] at hc2 ht2
  simp only [HL.out]
  (try simp only at hc2 ht2)
  have hz2 := hb2.size
  (try simp at hz2)
  have bb2 : Below w1.heap.size w1 w2 := (by repeat (first | exact Below.refl _ _ | assumption | refine below_drewN ?_ _ | refine Below.setCell ?_ (by first | (simp; done) | (simp; omega)) _ | refine Below.alloc ?_ (by first | (simp; done) | (simp; omega) | omega) _ | refine Below.drew ?_ | refine Below.trans ?_ (Below.mono (by assumption) (by first | (simp; done) | (simp; omega) | omega))))
  have BE2 := Lib.hid (show Below w.heap.size w w2 from BE1.out.trans (bb2.mono BE1.out.size))
  have HEV2 := Lib.hid (HEV1.out.below bb2)
  clear hb2 bb2 HEV1 BE1
  clear ht2
  go_wp2_with fail
  go_ret
  exact ⟨rfl, (by have q := BE2.out; repeat (first | exact q | refine Below.setCell ?_ (by first | (simp; done) | omega | (simp; omega)) _ | refine Below.alloc ?_ (by first | (simp; done) | omega | (simp; omega)) _ | refine below_drewN ?_ _ | refine Below.drew ?_))⟩
set_option maxRecDepth 100000 in
set_option maxHeartbeats 3200000 in
theorem gaps_empty (s g : List UInt8) (h : Nat) (z8 : List UInt8) (m : List Lx.Tk) (w : World) (hl : s.length ≤ 1500) (hl2 : g.length ≤ 300) (hgy : Lx.gapN g false = g.length) (hL : Lx.lexAll s = ([], 0, 0)) (hZ : Lx.lexAll z8 = (m, 0, 0)) (hlb : ([] : List Lx.Tk).length = m.length) (hx : ∀ (k : Nat) x y, ([] : List Lx.Tk)[k]? = some x → m[k]? = some y → Lx.bare x = Lx.bare y) (hz : g ++ [10] ++ [32] ++ (g ++ [10]) ++ s ++ [32] ++ [10] ++ g = z8) (hE : Env w) :
    Calls Tryd.prog 8 #[.string ⟨s.toArray⟩, .string ⟨g.toArray⟩, .int .u16 (h : Int)] w fun e w' => e = .returned (.bool true) ∧ Below w.heap.size w w' := by
  have hs := text_size s
  have hg := text_size g
  have b1 : decide (1500 < (s.length : Int)) = false := by simp; omega
  have b2 : decide (300 < (g.length : Int)) = false := by simp; omega
  have HG := Lib.hid (decide_eq_true hgy)
  have HL := Lib.hid hL
  clear hgy hL
  have hcs : ∀ x : UInt8, ((⟨#[x]⟩ : ByteArray)).size = 1 := fun _ => rfl
  have he : g ++ [10] ++ [32] ++ (g ++ [10]) ++ s ++ [32] ++ [10] ++ g = z8 := hz
  obtain ⟨z1, hz1_⟩ : ∃ z, g ++ [10] = z := ⟨_, rfl⟩
  have f1 := bytes_add g [10]
  rw [hz1_] at he f1
  obtain ⟨z3, hz3_⟩ : ∃ z, z1 ++ [32] = z := ⟨_, rfl⟩
  have f3 := bytes_add z1 [32]
  rw [hz3_] at he f3
  obtain ⟨z4, hz4_⟩ : ∃ z, z3 ++ z1 = z := ⟨_, rfl⟩
  have f4 := bytes_add z3 z1
  rw [hz4_] at he f4
  obtain ⟨z5, hz5_⟩ : ∃ z, z4 ++ s = z := ⟨_, rfl⟩
  have f5 := bytes_add z4 s
  rw [hz5_] at he f5
  obtain ⟨z6, hz6_⟩ : ∃ z, z5 ++ [32] = z := ⟨_, rfl⟩
  have f6 := bytes_add z5 [32]
  rw [hz6_] at he f6
  obtain ⟨z7, hz7_⟩ : ∃ z, z6 ++ [10] = z := ⟨_, rfl⟩
  have f7 := bytes_add z6 [10]
  rw [hz7_] at he f7
  have f8 := bytes_add z7 g
  rw [he] at f8
  have l1 : z1.length ≤ 4999 := by rw [← hz1_]; simp; omega
  have l3 : z3.length ≤ 4999 := by rw [← hz3_, ← hz1_]; simp; omega
  have l4 : z4.length ≤ 4999 := by rw [← hz4_, ← hz3_, ← hz1_]; simp; omega
  have l5 : z5.length ≤ 4999 := by rw [← hz5_, ← hz4_, ← hz3_, ← hz1_]; simp; omega
  have l6 : z6.length ≤ 4999 := by rw [← hz6_, ← hz5_, ← hz4_, ← hz3_, ← hz1_]; simp; omega
  have l7 : z7.length ≤ 4999 := by rw [← hz7_, ← hz6_, ← hz5_, ← hz4_, ← hz3_, ← hz1_]; simp; omega
  have l8 : z8.length ≤ 5999 := by rw [← he, List.length_append]; omega
  have t1 := text_size z1
  have t3 := text_size z3
  have t4 := text_size z4
  have t5 := text_size z5
  have t6 := text_size z6
  have t7 := text_size z7
  have hk1 := text_size [(10 : UInt8)]
  have hk2 := text_size [(32 : UInt8)]
  clear hcs he hz hz1_ hz3_ hz4_ hz5_ hz6_ hz7_
  have HZ := Lib.hid hZ
  have HLB := Lib.hid hlb
  have HX := Lib.hid hx
  clear hZ hlb hx
  have hp0 := text_pre s 0
  rw [List.take_zero] at hp0
  have hd0 := text_suf s 0 (Nat.zero_le _)
  rw [List.drop_zero] at hd0
  have HEV0 := Lib.hid hE
  clear hE
  go_enter Tryd.func8, Tryd.ntmps8
  go_wp2_with fail
  refine (head_any _ (HEV0.out.below (by repeat (first | exact Below.refl _ _ | assumption | refine below_drewN ?_ _ | refine Below.setCell ?_ (by first | (simp; done) | (simp; omega)) _ | refine Below.alloc ?_ (by first | (simp; done) | (simp; omega) | omega) _ | refine Below.drew ?_ | refine Below.trans ?_ (Below.mono (by assumption) (by first | (simp; done) | (simp; omega) | omega)))))).mono ?_
  rintro e w1 ⟨rfl, hb1⟩
  have hz1 := hb1.size
  (try simp at hz1)
  have bb1 : Below w.heap.size w w1 := (by repeat (first | exact Below.refl _ _ | assumption | refine below_drewN ?_ _ | refine Below.setCell ?_ (by first | (simp; done) | (simp; omega)) _ | refine Below.alloc ?_ (by first | (simp; done) | (simp; omega) | omega) _ | refine Below.drew ?_ | refine Below.trans ?_ (Below.mono (by assumption) (by first | (simp; done) | (simp; omega) | omega))))
  have BE1 := Lib.hid (show Below w.heap.size w w1 from bb1)
  have HEV1 := Lib.hid (HEV0.out.below bb1)
  clear hb1 bb1 HEV0
  go_wp2_with fail
  refine (gaps_any g _ (by omega)).mono ?_
  rintro e w' ⟨rfl, rfl⟩
  rw [HG.out]
  go_wp2_with fail
  refine (lex_any s _ (HEV1.out.below (by repeat (first | exact Below.refl _ _ | assumption | refine below_drewN ?_ _ | refine Below.setCell ?_ (by first | (simp; done) | (simp; omega)) _ | refine Below.alloc ?_ (by first | (simp; done) | (simp; omega) | omega) _ | refine Below.drew ?_ | refine Below.trans ?_ (Below.mono (by assumption) (by first | (simp; done) | (simp; omega) | omega))))) (by omega)).mono ?_
  rintro e w2 ⟨⟨q2, cap2, rfl, hc2, hm2, ht2⟩, hb2⟩
  rw [HL.out] at hc2 ht2
  simp only [HL.out]
  (try simp only at hc2 ht2)
  have hz2 := hb2.size
  (try simp at hz2)
  have bb2 : Below w1.heap.size w1 w2 := (by repeat (first | exact Below.refl _ _ | assumption | refine below_drewN ?_ _ | refine Below.setCell ?_ (by first | (simp; done) | (simp; omega)) _ | refine Below.alloc ?_ (by first | (simp; done) | (simp; omega) | omega) _ | refine Below.drew ?_ | refine Below.trans ?_ (Below.mono (by assumption) (by first | (simp; done) | (simp; omega) | omega))))
  have BE2 := Lib.hid (show Below w.heap.size w w2 from BE1.out.trans (bb2.mono BE1.out.size))
  have HEV2 := Lib.hid (HEV1.out.below bb2)
  have TA2 := Lib.hid ht2
  clear hb2 bb2 HEV1 BE1
  clear ht2
  go_wp2_with fail
  refine (lex_any z8 _ (HEV2.out.below (by repeat (first | exact Below.refl _ _ | assumption | refine below_drewN ?_ _ | refine Below.setCell ?_ (by first | (simp; done) | (simp; omega)) _ | refine Below.alloc ?_ (by first | (simp; done) | (simp; omega) | omega) _ | refine Below.drew ?_ | refine Below.trans ?_ (Below.mono (by assumption) (by first | (simp; done) | (simp; omega) | omega))))) (by omega)).mono ?_
  rintro e w3 ⟨⟨q3, cap3, rfl, hc3, hm3, ht3⟩, hb3⟩
  rw [HZ.out] at hc3 ht3
  simp only [HZ.out]
  (try simp only at hc3 ht3)
  have hz3 := hb3.size
  (try simp at hz3)
  have bb3 : Below w2.heap.size w2 w3 := (by repeat (first | exact Below.refl _ _ | assumption | refine below_drewN ?_ _ | refine Below.setCell ?_ (by first | (simp; done) | (simp; omega)) _ | refine Below.alloc ?_ (by first | (simp; done) | (simp; omega) | omega) _ | refine Below.drew ?_ | refine Below.trans ?_ (Below.mono (by assumption) (by first | (simp; done) | (simp; omega) | omega))))
  have BE3 := Lib.hid (show Below w.heap.size w w3 from BE2.out.trans (bb3.mono BE2.out.size))
  have HEV3 := Lib.hid (HEV2.out.below bb3)
  have TA3 := Lib.hid (TA2.out.below bb3)
  have TB3 := Lib.hid ht3
  clear hb3 bb3 HEV2 TA2 BE2
  clear ht3
  go_wp2_with fail
  refine (alike_true q2 q3 cap2 cap3 [] m _ (TA3.out.below (by repeat (first | exact Below.refl _ _ | assumption | refine below_drewN ?_ _ | refine Below.setCell ?_ (by first | (simp; done) | (simp; omega)) _ | refine Below.alloc ?_ (by first | (simp; done) | (simp; omega) | omega) _ | refine Below.drew ?_ | refine Below.trans ?_ (Below.mono (by assumption) (by first | (simp; done) | (simp; omega) | omega))))) (TB3.out.below (by repeat (first | exact Below.refl _ _ | assumption | refine below_drewN ?_ _ | refine Below.setCell ?_ (by first | (simp; done) | (simp; omega)) _ | refine Below.alloc ?_ (by first | (simp; done) | (simp; omega) | omega) _ | refine Below.drew ?_ | refine Below.trans ?_ (Below.mono (by assumption) (by first | (simp; done) | (simp; omega) | omega))))) HLB.out (by simp) HX.out).mono ?_
  rintro e w' ⟨rfl, nd, rfl⟩
  go_wp2_with fail
  go_ret
  exact ⟨rfl, (by have q := BE3.out; repeat (first | exact q | refine Below.setCell ?_ (by first | (simp; done) | omega | (simp; omega)) _ | refine Below.alloc ?_ (by first | (simp; done) | omega | (simp; omega)) _ | refine below_drewN ?_ _ | refine Below.drew ?_))⟩
set_option maxRecDepth 100000 in
set_option maxHeartbeats 3200000 in
theorem gaps_tok (s g : List UInt8) (h : Nat) (z8 : List UInt8) (m : List Lx.Tk) (l : List Lx.Tk) (i mid : Nat) (t : Lx.Tk) (p r : List UInt8) (w : World) (hl : s.length ≤ 1500) (hl2 : g.length ≤ 300) (hgy : Lx.gapN g false = g.length) (hh : h ≤ 65535) (hL : Lx.lexAll s = (l, 0, 0)) (hll : l.length ≤ 1500) (hZ : Lx.lexAll z8 = (m, 0, 0)) (hlb : l.length = m.length) (hx : ∀ (k : Nat) x y, l[k]? = some x → m[k]? = some y → Lx.bare x = Lx.bare y) (ht : l[i]? = some t) (hi : h % l.length = i) (hmid : t.off + t.tx.length = mid) (hm1 : 1 ≤ mid) (hm2 : mid ≤ s.length) (hp : s.take mid = p) (hr : s.drop mid = r) (hz : g ++ [10] ++ p ++ [32] ++ (g ++ [10]) ++ r ++ [32] ++ [10] ++ g = z8) (hE : Env w) :
    Calls Tryd.prog 8 #[.string ⟨s.toArray⟩, .string ⟨g.toArray⟩, .int .u16 (h : Int)] w fun e w' => e = .returned (.bool true) ∧ Below w.heap.size w w' := by
  have hs := text_size s
  have hg := text_size g
  have b1 : decide (1500 < (s.length : Int)) = false := by simp; omega
  have b2 : decide (300 < (g.length : Int)) = false := by simp; omega
  have HG := Lib.hid (decide_eq_true hgy)
  have HL := Lib.hid hL
  clear hgy hL
  have hpl : p.length ≤ 1500 := by rw [← hp, List.length_take]; omega
  have hrl : r.length ≤ 1500 := by rw [← hr, List.length_drop]; omega
  have hcs : ∀ x : UInt8, ((⟨#[x]⟩ : ByteArray)).size = 1 := fun _ => rfl
  have he : g ++ [10] ++ p ++ [32] ++ (g ++ [10]) ++ r ++ [32] ++ [10] ++ g = z8 := hz
  obtain ⟨z1, hz1_⟩ : ∃ z, g ++ [10] = z := ⟨_, rfl⟩
  have f1 := bytes_add g [10]
  rw [hz1_] at he f1
  obtain ⟨z2, hz2_⟩ : ∃ z, z1 ++ p = z := ⟨_, rfl⟩
  have f2 := bytes_add z1 p
  rw [hz2_] at he f2
  obtain ⟨z3, hz3_⟩ : ∃ z, z2 ++ [32] = z := ⟨_, rfl⟩
  have f3 := bytes_add z2 [32]
  rw [hz3_] at he f3
  obtain ⟨z4, hz4_⟩ : ∃ z, z3 ++ z1 = z := ⟨_, rfl⟩
  have f4 := bytes_add z3 z1
  rw [hz4_] at he f4
  obtain ⟨z5, hz5_⟩ : ∃ z, z4 ++ r = z := ⟨_, rfl⟩
  have f5 := bytes_add z4 r
  rw [hz5_] at he f5
  obtain ⟨z6, hz6_⟩ : ∃ z, z5 ++ [32] = z := ⟨_, rfl⟩
  have f6 := bytes_add z5 [32]
  rw [hz6_] at he f6
  obtain ⟨z7, hz7_⟩ : ∃ z, z6 ++ [10] = z := ⟨_, rfl⟩
  have f7 := bytes_add z6 [10]
  rw [hz7_] at he f7
  have f8 := bytes_add z7 g
  rw [he] at f8
  have l1 : z1.length ≤ 4999 := by rw [← hz1_]; simp; omega
  have l2 : z2.length ≤ 4999 := by rw [← hz2_, ← hz1_]; simp; omega
  have l3 : z3.length ≤ 4999 := by rw [← hz3_, ← hz2_, ← hz1_]; simp; omega
  have l4 : z4.length ≤ 4999 := by rw [← hz4_, ← hz3_, ← hz2_, ← hz1_]; simp; omega
  have l5 : z5.length ≤ 4999 := by rw [← hz5_, ← hz4_, ← hz3_, ← hz2_, ← hz1_]; simp; omega
  have l6 : z6.length ≤ 4999 := by rw [← hz6_, ← hz5_, ← hz4_, ← hz3_, ← hz2_, ← hz1_]; simp; omega
  have l7 : z7.length ≤ 4999 := by rw [← hz7_, ← hz6_, ← hz5_, ← hz4_, ← hz3_, ← hz2_, ← hz1_]; simp; omega
  have l8 : z8.length ≤ 5999 := by rw [← he, List.length_append]; omega
  have t1 := text_size z1
  have t2 := text_size z2
  have t3 := text_size z3
  have t4 := text_size z4
  have t5 := text_size z5
  have t6 := text_size z6
  have t7 := text_size z7
  have hpz := text_size p
  have hrz := text_size r
  have hk1 := text_size [(10 : UInt8)]
  have hk2 := text_size [(32 : UInt8)]
  clear hcs he hz hz1_ hz2_ hz3_ hz4_ hz5_ hz6_ hz7_
  have HZ := Lib.hid hZ
  have HLB := Lib.hid hlb
  have HX := Lib.hid hx
  clear hZ hlb hx
  have hp0 := text_pre s mid
  rw [hp] at hp0
  have hd0 := text_suf s mid hm2
  rw [hr] at hd0
  have hil : i < l.length := (List.getElem?_eq_some_iff.1 ht).1
  have hn0 : ¬ l.length = 0 := by omega
  have hn1 : ¬ (l.length : Int) = 0 := by omega
  have c1 : decide (0 < (l.length : Int)) = true := by simp; omega
  have c2 : (h : Int) % (l.length : Int) = (i : Int) := by omega
  have c3 : (h : Int).tmod (l.length : Int) = (i : Int) := by rw [Int.tmod_eq_emod_of_nonneg (by omega)]; exact c2
  have c4 : (i : Int) < (l.length : Int) := by omega
  have c5 : (0 : Int) ≤ (i : Int) := by omega
  have c6 : (t.off : Int) + (t.tx.length : Int) = (mid : Int) := by omega
  have c7 : ((mid : Int) == 0) = false := by simp; omega
  have htz := text_size t.tx
  have HT := Lib.hid ht
  clear ht hi hmid hp hr
  have HEV0 := Lib.hid hE
  clear hE
  go_enter Tryd.func8, Tryd.ntmps8
  go_wp2_with fail
  refine (head_any _ (HEV0.out.below (by repeat (first | exact Below.refl _ _ | assumption | refine below_drewN ?_ _ | refine Below.setCell ?_ (by first | (simp; done) | (simp; omega)) _ | refine Below.alloc ?_ (by first | (simp; done) | (simp; omega) | omega) _ | refine Below.drew ?_ | refine Below.trans ?_ (Below.mono (by assumption) (by first | (simp; done) | (simp; omega) | omega)))))).mono ?_
  rintro e w1 ⟨rfl, hb1⟩
  have hz1 := hb1.size
  (try simp at hz1)
  have bb1 : Below w.heap.size w w1 := (by repeat (first | exact Below.refl _ _ | assumption | refine below_drewN ?_ _ | refine Below.setCell ?_ (by first | (simp; done) | (simp; omega)) _ | refine Below.alloc ?_ (by first | (simp; done) | (simp; omega) | omega) _ | refine Below.drew ?_ | refine Below.trans ?_ (Below.mono (by assumption) (by first | (simp; done) | (simp; omega) | omega))))
  have BE1 := Lib.hid (show Below w.heap.size w w1 from bb1)
  have HEV1 := Lib.hid (HEV0.out.below bb1)
  clear hb1 bb1 HEV0
  go_wp2_with fail
  refine (gaps_any g _ (by omega)).mono ?_
  rintro e w' ⟨rfl, rfl⟩
  rw [HG.out]
  go_wp2_with fail
  refine (lex_any s _ (HEV1.out.below (by repeat (first | exact Below.refl _ _ | assumption | refine below_drewN ?_ _ | refine Below.setCell ?_ (by first | (simp; done) | (simp; omega)) _ | refine Below.alloc ?_ (by first | (simp; done) | (simp; omega) | omega) _ | refine Below.drew ?_ | refine Below.trans ?_ (Below.mono (by assumption) (by first | (simp; done) | (simp; omega) | omega))))) (by omega)).mono ?_
  rintro e w2 ⟨⟨q2, cap2, rfl, hc2, hm2, ht2⟩, hb2⟩
  rw [HL.out] at hc2 ht2
  simp only [HL.out]
  (try simp only at hc2 ht2)
  have hz2 := hb2.size
  (try simp at hz2)
  have bb2 : Below w1.heap.size w1 w2 := (by repeat (first | exact Below.refl _ _ | assumption | refine below_drewN ?_ _ | refine Below.setCell ?_ (by first | (simp; done) | (simp; omega)) _ | refine Below.alloc ?_ (by first | (simp; done) | (simp; omega) | omega) _ | refine Below.drew ?_ | refine Below.trans ?_ (Below.mono (by assumption) (by first | (simp; done) | (simp; omega) | omega))))
  have BE2 := Lib.hid (show Below w.heap.size w w2 from BE1.out.trans (bb2.mono BE1.out.size))
  have HEV2 := Lib.hid (HEV1.out.below bb2)
  have TA2 := Lib.hid ht2
  clear hb2 bb2 HEV1 BE1
  clear ht2
  obtain ⟨bk, off, hqq, ⟨x0, x1, x2, x3⟩, hbk⟩ := TA2.out.at HT.out
  subst hqq
  go_wp2_with fail
  refine (lex_any z8 _ (HEV2.out.below (by repeat (first | exact Below.refl _ _ | assumption | refine below_drewN ?_ _ | refine Below.setCell ?_ (by first | (simp; done) | (simp; omega)) _ | refine Below.alloc ?_ (by first | (simp; done) | (simp; omega) | omega) _ | refine Below.drew ?_ | refine Below.trans ?_ (Below.mono (by assumption) (by first | (simp; done) | (simp; omega) | omega))))) (by omega)).mono ?_
  rintro e w3 ⟨⟨q3, cap3, rfl, hc3, hm3, ht3⟩, hb3⟩
  rw [HZ.out] at hc3 ht3
  simp only [HZ.out]
  (try simp only at hc3 ht3)
  have hz3 := hb3.size
  (try simp at hz3)
  have bb3 : Below w2.heap.size w2 w3 := (by repeat (first | exact Below.refl _ _ | assumption | refine below_drewN ?_ _ | refine Below.setCell ?_ (by first | (simp; done) | (simp; omega)) _ | refine Below.alloc ?_ (by first | (simp; done) | (simp; omega) | omega) _ | refine Below.drew ?_ | refine Below.trans ?_ (Below.mono (by assumption) (by first | (simp; done) | (simp; omega) | omega))))
  have BE3 := Lib.hid (show Below w.heap.size w w3 from BE2.out.trans (bb3.mono BE2.out.size))
  have HEV3 := Lib.hid (HEV2.out.below bb3)
  have TA3 := Lib.hid (TA2.out.below bb3)
  have TB3 := Lib.hid ht3
  clear hb3 bb3 HEV2 TA2 BE2
  clear ht3
  go_wp2_with fail
  refine (alike_true (some ⟨bk, off, none⟩) q3 cap2 cap3 l m _ (TA3.out.below (by repeat (first | exact Below.refl _ _ | assumption | refine below_drewN ?_ _ | refine Below.setCell ?_ (by first | (simp; done) | (simp; omega)) _ | refine Below.alloc ?_ (by first | (simp; done) | (simp; omega) | omega) _ | refine Below.drew ?_ | refine Below.trans ?_ (Below.mono (by assumption) (by first | (simp; done) | (simp; omega) | omega))))) (TB3.out.below (by repeat (first | exact Below.refl _ _ | assumption | refine below_drewN ?_ _ | refine Below.setCell ?_ (by first | (simp; done) | (simp; omega)) _ | refine Below.alloc ?_ (by first | (simp; done) | (simp; omega) | omega) _ | refine Below.drew ?_ | refine Below.trans ?_ (Below.mono (by assumption) (by first | (simp; done) | (simp; omega) | omega))))) HLB.out (by omega) HX.out).mono ?_
  rintro e w' ⟨rfl, nd, rfl⟩
  go_wp2_with fail
  go_ret
  exact ⟨rfl, (by have q := BE3.out; repeat (first | exact q | refine Below.setCell ?_ (by first | (simp; done) | omega | (simp; omega)) _ | refine Below.alloc ?_ (by first | (simp; done) | omega | (simp; omega)) _ | refine below_drewN ?_ _ | refine Below.drew ?_))⟩
theorem Lx.chain_pos {s : List Lx.B} : ∀ {e : Nat} {l : List Lx.Tk}, Lx.Chain s e l → ∀ t ∈ l, 1 ≤ t.tx.length
  | _, [], _, t, ht => by cases ht
  | _, x :: l, h, t, ht => by
    rcases List.mem_cons.1 ht with rfl | ht
    · have := h.2.2.1
      cases hx : t.tx with
      | nil => exact absurd hx this
      | cons => simp
    · exact chain_pos h.2.2.2.2.2 t ht
theorem gaps_law (s g : List UInt8) (x : Int) (w : World) (x0 : 0 ≤ x) (x1 : x ≤ 65535) (hE : Env w) : Calls Tryd.prog 8 #[.string ⟨s.toArray⟩, .string ⟨g.toArray⟩, .int .u16 x] w fun e w' => e = .returned (.bool true) ∧ Below w.heap.size w w' := by
  obtain ⟨h, rfl⟩ : ∃ h : Nat, x = (h : Int) := ⟨x.toNat, by omega⟩
  rcases Nat.lt_or_ge 1500 s.length with hl | hl
  · exact gaps_long s g h w hl hE
  · rcases Nat.lt_or_ge 300 g.length with hl2 | hl2
    · exact gaps_long2 s g h w hl hl2 hE
    · by_cases hg : Lx.gapN g false = g.length
      · rcases Lx.all_cases (s := s) (by omega) with ⟨l, h1, h2⟩ | ⟨er, k, h0, h1, h2, h3⟩
        · cases hln : l with
          | nil =>
            rw [hln] at h1 h2
            obtain ⟨m, hm, hb⟩ := Lx.gaps_nil hg hl2 hl h2
            obtain ⟨d1, d2⟩ := bare_at (l := []) hb
            exact gaps_empty s g h _ m w hl hl2 hg h1 hm d1 d2 (by simp) hE
          | cons a l' =>
            have hne : 0 < l.length := by rw [hln]; simp
            have hil : h % l.length < l.length := Nat.mod_lt _ hne
            obtain ⟨t, ht⟩ : ∃ t, l[h % l.length]? = some t := ⟨l[h % l.length], List.getElem?_eq_getElem hil⟩
            obtain ⟨m, hm, hb⟩ := Lx.gaps_some hg hl2 hl h2 ht
            obtain ⟨d1, d2⟩ := bare_at hb
            have hoff := (Lx.all_chain h2).offs t (List.mem_of_getElem? ht)
            have hpos := Lx.chain_pos (Lx.all_chain h2) t (List.mem_of_getElem? ht)
            have hcl := Lx.lexU_count s 0
            rw [h2] at hcl
            exact gaps_tok s g h _ m l _ _ t _ _ w hl hl2 hg (by omega) h1 (by simp only at hcl; omega) hm d1 d2 ht rfl rfl (by omega) hoff rfl rfl rfl hE
        · exact gaps_err s g h er k w hl hl2 hg h1 h0 hE
      · exact gaps_not s g h w hl hl2 hg hE
end Go.Proofs.YtedeodeejpaioaaDoor

/- LexerBeginnings: the law's walk. -/
import Derived.Test.YtedeodeejpaioaaDoorLxH
import Derived.Test.YtedeodeejpaioaaDoorLxM
import Derived.Test.YtedeodeejpaioaaDoorLxMath8
namespace Go.Proofs.YtedeodeejpaioaaDoor
open Go.RowKit

theorem text_pre (s : List UInt8) (k : Nat) : (⟨s.toArray⟩ : ByteArray).extract 0 k = ⟨(s.take k).toArray⟩ := by
  have h := text_cut s 0 k
  rwa [Nat.zero_add, List.drop_zero] at h
theorem text_suf (s : List UInt8) (k : Nat) (h : k ≤ s.length) : (⟨s.toArray⟩ : ByteArray).extract k s.length = ⟨(s.drop k).toArray⟩ := by
  have h2 := text_cut s k (s.length - k)
  rw [show k + (s.length - k) = s.length by omega] at h2
  rw [h2, List.take_of_length_le (by rw [List.length_drop]; exact Nat.le_refl _)]
set_option maxRecDepth 100000 in
set_option maxHeartbeats 3200000 in
theorem beg_long (s r : List UInt8) (w : World) (hl : 2000 < s.length) (hE : Env w) :
    Calls Tryd.prog 7 #[.string ⟨s.toArray⟩, .string ⟨r.toArray⟩] w fun e w' => e = .returned (.bool true) ∧ Below w.heap.size w w' := by
  have hs := text_size s
  have hr := text_size r
  have b1 : decide (2000 < (s.length : Int)) = true := by simp; omega
  have HEV0 := Lib.hid hE
  clear hE
  go_enter Tryd.func7, Tryd.ntmps7
  go_wp2_with fail
  refine (head_any _ (HEV0.out.below (by repeat (first | exact Below.refl _ _ | assumption | refine below_drewN ?_ _ | refine Below.setCell ?_ (by first | (simp; done) | (simp; omega)) _ | refine Below.alloc ?_ (by first | (simp; done) | (simp; omega) | omega) _ | refine Below.drew ?_ | refine Below.trans ?_ (Below.mono (by assumption) (by first | (simp; done) | (simp; omega) | omega)))))).mono ?_
  rintro e w1 ⟨rfl, hb1⟩
  have hz1 := hb1.size
  (try simp at hz1)
  have bb1 : Below w.heap.size w w1 := (by repeat (first | exact Below.refl _ _ | assumption | refine below_drewN ?_ _ | refine Below.setCell ?_ (by first | (simp; done) | (simp; omega)) _ | refine Below.alloc ?_ (by first | (simp; done) | (simp; omega) | omega) _ | refine Below.drew ?_ | refine Below.trans ?_ (Below.mono (by assumption) (by first | (simp; done) | (simp; omega) | omega))))
  have BE1 := Lib.hid (show Below w.heap.size w w1 from bb1)
  have HEV1 := Lib.hid (HEV0.out.below bb1)
  clear hb1 bb1 HEV0
  go_wp2_with fail
  go_ret
  exact ⟨rfl, (by have q := BE1.out; repeat (first | exact q | refine Below.setCell ?_ (by first | (simp; done) | omega | (simp; omega)) _ | refine Below.alloc ?_ (by first | (simp; done) | omega | (simp; omega)) _ | refine below_drewN ?_ _ | refine Below.drew ?_))⟩
set_option maxRecDepth 100000 in
set_option maxHeartbeats 3200000 in
theorem beg_long2 (s r : List UInt8) (w : World) (hl : s.length ≤ 2000) (hl2 : 500 < r.length) (hE : Env w) :
    Calls Tryd.prog 7 #[.string ⟨s.toArray⟩, .string ⟨r.toArray⟩] w fun e w' => e = .returned (.bool true) ∧ Below w.heap.size w w' := by
  have hs := text_size s
  have hr := text_size r
  have b1 : decide (2000 < (s.length : Int)) = false := by simp; omega
  have b2 : decide (500 < (r.length : Int)) = true := by simp; omega
  have HEV0 := Lib.hid hE
  clear hE
  go_enter Tryd.func7, Tryd.ntmps7
  go_wp2_with fail
  refine (head_any _ (HEV0.out.below (by repeat (first | exact Below.refl _ _ | assumption | refine below_drewN ?_ _ | refine Below.setCell ?_ (by first | (simp; done) | (simp; omega)) _ | refine Below.alloc ?_ (by first | (simp; done) | (simp; omega) | omega) _ | refine Below.drew ?_ | refine Below.trans ?_ (Below.mono (by assumption) (by first | (simp; done) | (simp; omega) | omega)))))).mono ?_
  rintro e w1 ⟨rfl, hb1⟩
  have hz1 := hb1.size
  (try simp at hz1)
  have bb1 : Below w.heap.size w w1 := (by repeat (first | exact Below.refl _ _ | assumption | refine below_drewN ?_ _ | refine Below.setCell ?_ (by first | (simp; done) | (simp; omega)) _ | refine Below.alloc ?_ (by first | (simp; done) | (simp; omega) | omega) _ | refine Below.drew ?_ | refine Below.trans ?_ (Below.mono (by assumption) (by first | (simp; done) | (simp; omega) | omega))))
  have BE1 := Lib.hid (show Below w.heap.size w w1 from bb1)
  have HEV1 := Lib.hid (HEV0.out.below bb1)
  clear hb1 bb1 HEV0
  go_wp2_with fail
  go_ret
  exact ⟨rfl, (by have q := BE1.out; repeat (first | exact q | refine Below.setCell ?_ (by first | (simp; done) | omega | (simp; omega)) _ | refine Below.alloc ?_ (by first | (simp; done) | omega | (simp; omega)) _ | refine below_drewN ?_ _ | refine Below.drew ?_))⟩
set_option maxRecDepth 100000 in
set_option maxHeartbeats 3200000 in
theorem beg_ok (s r : List UInt8) (l : List Lx.Tk) (w : World) (hl : s.length ≤ 2000) (hl2 : r.length ≤ 500) (hL : Lx.lexAll s = (l, 0, 0)) (hE : Env w) :
    Calls Tryd.prog 7 #[.string ⟨s.toArray⟩, .string ⟨r.toArray⟩] w fun e w' => e = .returned (.bool true) ∧ Below w.heap.size w w' := by
  have hs := text_size s
  have hr := text_size r
  have b1 : decide (2000 < (s.length : Int)) = false := by simp; omega
  have b2 : decide (500 < (r.length : Int)) = false := by simp; omega
  have HL := Lib.hid hL
  clear hL
  have HEV0 := Lib.hid hE
  clear hE
  go_enter Tryd.func7, Tryd.ntmps7
  go_wp2_with fail
  refine (head_any _ (HEV0.out.below (by repeat (first | exact Below.refl _ _ | assumption | refine below_drewN ?_ _ | refine Below.setCell ?_ (by first | (simp; done) | (simp; omega)) _ | refine Below.alloc ?_ (by first | (simp; done) | (simp; omega) | omega) _ | refine Below.drew ?_ | refine Below.trans ?_ (Below.mono (by assumption) (by first | (simp; done) | (simp; omega) | omega)))))).mono ?_
  rintro e w1 ⟨rfl, hb1⟩
  have hz1 := hb1.size
  (try simp at hz1)
  have bb1 : Below w.heap.size w w1 := (by repeat (first | exact Below.refl _ _ | assumption | refine below_drewN ?_ _ | refine Below.setCell ?_ (by first | (simp; done) | (simp; omega)) _ | refine Below.alloc ?_ (by first | (simp; done) | (simp; omega) | omega) _ | refine Below.drew ?_ | refine Below.trans ?_ (Below.mono (by assumption) (by first | (simp; done) | (simp; omega) | omega))))
  have BE1 := Lib.hid (show Below w.heap.size w w1 from bb1)
  have HEV1 := Lib.hid (HEV0.out.below bb1)
  clear hb1 bb1 HEV0
  go_wp2_with fail
  refine (lex_any s _ (HEV1.out.below (by repeat (first | exact Below.refl _ _ | assumption | refine below_drewN ?_ _ | refine Below.setCell ?_ (by first | (simp; done) | (simp; omega)) _ | refine Below.alloc ?_ (by first | (simp; done) | (simp; omega) | omega) _ | refine Below.drew ?_ | refine Below.trans ?_ (Below.mono (by assumption) (by first | (simp; done) | (simp; omega) | omega))))) (by omega)).mono ?_
  rintro e w2 ⟨⟨q2, cap2, rfl, hc2, hm2, ht2⟩, hb2⟩
  rw [HL.out] at hc2 ht2
  simp only [HL.out]
  (try simp only at hc2 ht2)
  have hz2 := hb2.size
  (try simp at hz2)
  have bb2 : Below w1.heap.size w1 w2 := (by repeat (first | exact Below.refl _ _ | assumption | refine below_drewN ?_ _ | refine Below.setCell ?_ (by first | (simp; done) | (simp; omega)) _ | refine Below.alloc ?_ (by first | (simp; done) | (simp; omega) | omega) _ | refine Below.drew ?_ | refine Below.trans ?_ (Below.mono (by assumption) (by first | (simp; done) | (simp; omega) | omega))))
  have BE2 := Lib.hid (show Below w.heap.size w w2 from BE1.out.trans (bb2.mono BE1.out.size))
  have HEV2 := Lib.hid (HEV1.out.below bb2)
  clear hb2 bb2 HEV1 BE1
  clear ht2
  go_wp2_with fail
  go_ret
  exact ⟨rfl, (by have q := BE2.out; repeat (first | exact q | refine Below.setCell ?_ (by first | (simp; done) | omega | (simp; omega)) _ | refine Below.alloc ?_ (by first | (simp; done) | omega | (simp; omega)) _ | refine below_drewN ?_ _ | refine Below.drew ?_))⟩
set_option maxRecDepth 100000 in
set_option maxHeartbeats 3200000 in
theorem beg_err (s r : List UInt8) (er : Int) (k : Nat) (m : List Lx.Tk) (w : World) (hl : s.length ≤ 2000) (hl2 : r.length ≤ 500) (h0 : er ≠ 0) (hL : Lx.lexAll s = ([], er, (k : Int))) (hk : k < s.length) (hp : Lx.lexAll (s.take k) = (m, 0, 0)) (h4 : er ≠ 4) (hE : Env w) :
    Calls Tryd.prog 7 #[.string ⟨s.toArray⟩, .string ⟨r.toArray⟩] w fun e w' => e = .returned (.bool true) ∧ Below w.heap.size w w' := by
  have hs := text_size s
  have hr := text_size r
  have b1 : decide (2000 < (s.length : Int)) = false := by simp; omega
  have b2 : decide (500 < (r.length : Int)) = false := by simp; omega
  have HL := Lib.hid hL
  have HP := Lib.hid hp
  have b3 : (er == 0) = false := by simpa using h0
  have b4 : decide ((k : Int) < 0) = false := by simp
  have b5 : decide ((s.length : Int) ≤ (k : Int)) = false := by simp; omega
  have hpre := text_pre s k
  obtain ⟨p, hpp⟩ : ∃ p, s.take k = p := ⟨_, rfl⟩
  rw [hpp] at hpre HP
  have hpl : p.length = k := by rw [← hpp, List.length_take]; omega
  clear hL hp hpp
  have b6 : (er == 4) = false := by simpa using h4
  have HEV0 := Lib.hid hE
  clear hE
  go_enter Tryd.func7, Tryd.ntmps7
  go_wp2_with fail
  refine (head_any _ (HEV0.out.below (by repeat (first | exact Below.refl _ _ | assumption | refine below_drewN ?_ _ | refine Below.setCell ?_ (by first | (simp; done) | (simp; omega)) _ | refine Below.alloc ?_ (by first | (simp; done) | (simp; omega) | omega) _ | refine Below.drew ?_ | refine Below.trans ?_ (Below.mono (by assumption) (by first | (simp; done) | (simp; omega) | omega)))))).mono ?_
  rintro e w1 ⟨rfl, hb1⟩
  have hz1 := hb1.size
  (try simp at hz1)
  have bb1 : Below w.heap.size w w1 := (by repeat (first | exact Below.refl _ _ | assumption | refine below_drewN ?_ _ | refine Below.setCell ?_ (by first | (simp; done) | (simp; omega)) _ | refine Below.alloc ?_ (by first | (simp; done) | (simp; omega) | omega) _ | refine Below.drew ?_ | refine Below.trans ?_ (Below.mono (by assumption) (by first | (simp; done) | (simp; omega) | omega))))
  have BE1 := Lib.hid (show Below w.heap.size w w1 from bb1)
  have HEV1 := Lib.hid (HEV0.out.below bb1)
  clear hb1 bb1 HEV0
  go_wp2_with fail
  refine (lex_any s _ (HEV1.out.below (by repeat (first | exact Below.refl _ _ | assumption | refine below_drewN ?_ _ | refine Below.setCell ?_ (by first | (simp; done) | (simp; omega)) _ | refine Below.alloc ?_ (by first | (simp; done) | (simp; omega) | omega) _ | refine Below.drew ?_ | refine Below.trans ?_ (Below.mono (by assumption) (by first | (simp; done) | (simp; omega) | omega))))) (by omega)).mono ?_
  rintro e w2 ⟨⟨q2, cap2, rfl, hc2, hm2, ht2⟩, hb2⟩
  rw [HL.out] at hc2 ht2
  simp only [HL.out]
  (try simp only at hc2 ht2)
  have hz2 := hb2.size
  (try simp at hz2)
  have bb2 : Below w1.heap.size w1 w2 := (by repeat (first | exact Below.refl _ _ | assumption | refine below_drewN ?_ _ | refine Below.setCell ?_ (by first | (simp; done) | (simp; omega)) _ | refine Below.alloc ?_ (by first | (simp; done) | (simp; omega) | omega) _ | refine Below.drew ?_ | refine Below.trans ?_ (Below.mono (by assumption) (by first | (simp; done) | (simp; omega) | omega))))
  have BE2 := Lib.hid (show Below w.heap.size w w2 from BE1.out.trans (bb2.mono BE1.out.size))
  have HEV2 := Lib.hid (HEV1.out.below bb2)
  clear hb2 bb2 HEV1 BE1
  clear ht2
  go_wp2_with fail
  refine (lex_any p _ (HEV2.out.below (by repeat (first | exact Below.refl _ _ | assumption | refine below_drewN ?_ _ | refine Below.setCell ?_ (by first | (simp; done) | (simp; omega)) _ | refine Below.alloc ?_ (by first | (simp; done) | (simp; omega) | omega) _ | refine Below.drew ?_ | refine Below.trans ?_ (Below.mono (by assumption) (by first | (simp; done) | (simp; omega) | omega))))) (by omega)).mono ?_
  rintro e w3 ⟨⟨q3, cap3, rfl, hc3, hm3, ht3⟩, hb3⟩
  rw [HP.out] at hc3 ht3
  simp only [HP.out]
  (try simp only at hc3 ht3)
  have hz3 := hb3.size
  (try simp at hz3)
  have bb3 : Below w2.heap.size w2 w3 := (by repeat (first | exact Below.refl _ _ | assumption | refine below_drewN ?_ _ | refine Below.setCell ?_ (by first | (simp; done) | (simp; omega)) _ | refine Below.alloc ?_ (by first | (simp; done) | (simp; omega) | omega) _ | refine Below.drew ?_ | refine Below.trans ?_ (Below.mono (by assumption) (by first | (simp; done) | (simp; omega) | omega))))
  have BE3 := Lib.hid (show Below w.heap.size w w3 from BE2.out.trans (bb3.mono BE2.out.size))
  have HEV3 := Lib.hid (HEV2.out.below bb3)
  clear hb3 bb3 HEV2 BE2
  clear ht3
  go_wp2_with fail
  go_ret
  exact ⟨rfl, (by have q := BE3.out; repeat (first | exact q | refine Below.setCell ?_ (by first | (simp; done) | omega | (simp; omega)) _ | refine Below.alloc ?_ (by first | (simp; done) | omega | (simp; omega)) _ | refine below_drewN ?_ _ | refine Below.drew ?_))⟩
set_option maxRecDepth 100000 in
set_option maxHeartbeats 3200000 in
theorem beg_last (s r : List UInt8) (k : Nat) (m : List Lx.Tk) (w : World) (hl : s.length ≤ 2000) (hl2 : r.length ≤ 500) (hL : Lx.lexAll s = ([], 4, (k : Int))) (hk : k < s.length) (hp : Lx.lexAll (s.take k) = (m, 0, 0)) (h5 : s.length ≤ k + 2) (hE : Env w) :
    Calls Tryd.prog 7 #[.string ⟨s.toArray⟩, .string ⟨r.toArray⟩] w fun e w' => e = .returned (.bool true) ∧ Below w.heap.size w w' := by
  have hs := text_size s
  have hr := text_size r
  have b1 : decide (2000 < (s.length : Int)) = false := by simp; omega
  have b2 : decide (500 < (r.length : Int)) = false := by simp; omega
  have HL := Lib.hid hL
  have HP := Lib.hid hp
  have b4 : decide ((k : Int) < 0) = false := by simp
  have b5 : decide ((s.length : Int) ≤ (k : Int)) = false := by simp; omega
  have hpre := text_pre s k
  obtain ⟨p, hpp⟩ : ∃ p, s.take k = p := ⟨_, rfl⟩
  rw [hpp] at hpre HP
  have hpl : p.length = k := by rw [← hpp, List.length_take]; omega
  clear hL hp hpp
  have b7 : decide ((k : Int) + 2 < (s.length : Int)) = false := by simp; omega
  have HEV0 := Lib.hid hE
  clear hE
  go_enter Tryd.func7, Tryd.ntmps7
  go_wp2_with fail
  refine (head_any _ (HEV0.out.below (by repeat (first | exact Below.refl _ _ | assumption | refine below_drewN ?_ _ | refine Below.setCell ?_ (by first | (simp; done) | (simp; omega)) _ | refine Below.alloc ?_ (by first | (simp; done) | (simp; omega) | omega) _ | refine Below.drew ?_ | refine Below.trans ?_ (Below.mono (by assumption) (by first | (simp; done) | (simp; omega) | omega)))))).mono ?_
  rintro e w1 ⟨rfl, hb1⟩
  have hz1 := hb1.size
  (try simp at hz1)
  have bb1 : Below w.heap.size w w1 := (by repeat (first | exact Below.refl _ _ | assumption | refine below_drewN ?_ _ | refine Below.setCell ?_ (by first | (simp; done) | (simp; omega)) _ | refine Below.alloc ?_ (by first | (simp; done) | (simp; omega) | omega) _ | refine Below.drew ?_ | refine Below.trans ?_ (Below.mono (by assumption) (by first | (simp; done) | (simp; omega) | omega))))
  have BE1 := Lib.hid (show Below w.heap.size w w1 from bb1)
  have HEV1 := Lib.hid (HEV0.out.below bb1)
  clear hb1 bb1 HEV0
  go_wp2_with fail
  refine (lex_any s _ (HEV1.out.below (by repeat (first | exact Below.refl _ _ | assumption | refine below_drewN ?_ _ | refine Below.setCell ?_ (by first | (simp; done) | (simp; omega)) _ | refine Below.alloc ?_ (by first | (simp; done) | (simp; omega) | omega) _ | refine Below.drew ?_ | refine Below.trans ?_ (Below.mono (by assumption) (by first | (simp; done) | (simp; omega) | omega))))) (by omega)).mono ?_
  rintro e w2 ⟨⟨q2, cap2, rfl, hc2, hm2, ht2⟩, hb2⟩
  rw [HL.out] at hc2 ht2
  simp only [HL.out]
  (try simp only at hc2 ht2)
  have hz2 := hb2.size
  (try simp at hz2)
  have bb2 : Below w1.heap.size w1 w2 := (by repeat (first | exact Below.refl _ _ | assumption | refine below_drewN ?_ _ | refine Below.setCell ?_ (by first | (simp; done) | (simp; omega)) _ | refine Below.alloc ?_ (by first | (simp; done) | (simp; omega) | omega) _ | refine Below.drew ?_ | refine Below.trans ?_ (Below.mono (by assumption) (by first | (simp; done) | (simp; omega) | omega))))
  have BE2 := Lib.hid (show Below w.heap.size w w2 from BE1.out.trans (bb2.mono BE1.out.size))
  have HEV2 := Lib.hid (HEV1.out.below bb2)
  clear hb2 bb2 HEV1 BE1
  clear ht2
  go_wp2_with fail
  refine (lex_any p _ (HEV2.out.below (by repeat (first | exact Below.refl _ _ | assumption | refine below_drewN ?_ _ | refine Below.setCell ?_ (by first | (simp; done) | (simp; omega)) _ | refine Below.alloc ?_ (by first | (simp; done) | (simp; omega) | omega) _ | refine Below.drew ?_ | refine Below.trans ?_ (Below.mono (by assumption) (by first | (simp; done) | (simp; omega) | omega))))) (by omega)).mono ?_
  rintro e w3 ⟨⟨q3, cap3, rfl, hc3, hm3, ht3⟩, hb3⟩
  rw [HP.out] at hc3 ht3
  simp only [HP.out]
  (try simp only at hc3 ht3)
  have hz3 := hb3.size
  (try simp at hz3)
  have bb3 : Below w2.heap.size w2 w3 := (by repeat (first | exact Below.refl _ _ | assumption | refine below_drewN ?_ _ | refine Below.setCell ?_ (by first | (simp; done) | (simp; omega)) _ | refine Below.alloc ?_ (by first | (simp; done) | (simp; omega) | omega) _ | refine Below.drew ?_ | refine Below.trans ?_ (Below.mono (by assumption) (by first | (simp; done) | (simp; omega) | omega))))
  have BE3 := Lib.hid (show Below w.heap.size w w3 from BE2.out.trans (bb3.mono BE2.out.size))
  have HEV3 := Lib.hid (HEV2.out.below bb3)
  clear hb3 bb3 HEV2 BE2
  clear ht3
  go_wp2_with fail
  go_ret
  exact ⟨rfl, (by have q := BE3.out; repeat (first | exact q | refine Below.setCell ?_ (by first | (simp; done) | omega | (simp; omega)) _ | refine Below.alloc ?_ (by first | (simp; done) | omega | (simp; omega)) _ | refine below_drewN ?_ _ | refine Below.drew ?_))⟩
set_option maxRecDepth 100000 in
set_option maxHeartbeats 3200000 in
theorem beg_other (s r : List UInt8) (k : Nat) (m : List Lx.Tk) (w : World) (hl : s.length ≤ 2000) (hl2 : r.length ≤ 500) (hL : Lx.lexAll s = ([], 4, (k : Int))) (hk : k < s.length) (hp : Lx.lexAll (s.take k) = (m, 0, 0)) (h5 : k + 2 < s.length) (ho : Lx.lexAll (s.take (k + 2) ++ r) = ([], 4, (k : Int))) (hE : Env w) :
    Calls Tryd.prog 7 #[.string ⟨s.toArray⟩, .string ⟨r.toArray⟩] w fun e w' => e = .returned (.bool true) ∧ Below w.heap.size w w' := by
  have hs := text_size s
  have hr := text_size r
  have b1 : decide (2000 < (s.length : Int)) = false := by simp; omega
  have b2 : decide (500 < (r.length : Int)) = false := by simp; omega
  have HL := Lib.hid hL
  have HP := Lib.hid hp
  have b4 : decide ((k : Int) < 0) = false := by simp
  have b5 : decide ((s.length : Int) ≤ (k : Int)) = false := by simp; omega
  have hpre := text_pre s k
  obtain ⟨p, hpp⟩ : ∃ p, s.take k = p := ⟨_, rfl⟩
  rw [hpp] at hpre HP
  have hpl : p.length = k := by rw [← hpp, List.length_take]; omega
  clear hL hp hpp
  have b7 : decide ((k : Int) + 2 < (s.length : Int)) = true := by simp; omega
  have e2 : ((k : Int) + 2).toNat = k + 2 := by omega
  have hpre2 := text_pre s (k + 2)
  obtain ⟨u, hu⟩ : ∃ u, s.take (k + 2) = u := ⟨_, rfl⟩
  rw [hu] at hpre2 ho
  have hul : u.length = k + 2 := by rw [← hu, List.length_take]; omega
  have hus := text_size u
  have HO := Lib.hid ho
  have hadd := bytes_add u r
  clear ho hu
  have HEV0 := Lib.hid hE
  clear hE
  go_enter Tryd.func7, Tryd.ntmps7
  go_wp2_with fail
  refine (head_any _ (HEV0.out.below (by repeat (first | exact Below.refl _ _ | assumption | refine below_drewN ?_ _ | refine Below.setCell ?_ (by first | (simp; done) | (simp; omega)) _ | refine Below.alloc ?_ (by first | (simp; done) | (simp; omega) | omega) _ | refine Below.drew ?_ | refine Below.trans ?_ (Below.mono (by assumption) (by first | (simp; done) | (simp; omega) | omega)))))).mono ?_
  rintro e w1 ⟨rfl, hb1⟩
  have hz1 := hb1.size
  (try simp at hz1)
  have bb1 : Below w.heap.size w w1 := (by repeat (first | exact Below.refl _ _ | assumption | refine below_drewN ?_ _ | refine Below.setCell ?_ (by first | (simp; done) | (simp; omega)) _ | refine Below.alloc ?_ (by first | (simp; done) | (simp; omega) | omega) _ | refine Below.drew ?_ | refine Below.trans ?_ (Below.mono (by assumption) (by first | (simp; done) | (simp; omega) | omega))))
  have BE1 := Lib.hid (show Below w.heap.size w w1 from bb1)
  have HEV1 := Lib.hid (HEV0.out.below bb1)
  clear hb1 bb1 HEV0
  go_wp2_with fail
  refine (lex_any s _ (HEV1.out.below (by repeat (first | exact Below.refl _ _ | assumption | refine below_drewN ?_ _ | refine Below.setCell ?_ (by first | (simp; done) | (simp; omega)) _ | refine Below.alloc ?_ (by first | (simp; done) | (simp; omega) | omega) _ | refine Below.drew ?_ | refine Below.trans ?_ (Below.mono (by assumption) (by first | (simp; done) | (simp; omega) | omega))))) (by omega)).mono ?_
  rintro e w2 ⟨⟨q2, cap2, rfl, hc2, hm2, ht2⟩, hb2⟩
  rw [HL.out] at hc2 ht2
  simp only [HL.out]
  (try simp only at hc2 ht2)
  have hz2 := hb2.size
  (try simp at hz2)
  have bb2 : Below w1.heap.size w1 w2 := (by repeat (first | exact Below.refl _ _ | assumption | refine below_drewN ?_ _ | refine Below.setCell ?_ (by first | (simp; done) | (simp; omega)) _ | refine Below.alloc ?_ (by first | (simp; done) | (simp; omega) | omega) _ | refine Below.drew ?_ | refine Below.trans ?_ (Below.mono (by assumption) (by first | (simp; done) | (simp; omega) | omega))))
  have BE2 := Lib.hid (show Below w.heap.size w w2 from BE1.out.trans (bb2.mono BE1.out.size))
  have HEV2 := Lib.hid (HEV1.out.below bb2)
  clear hb2 bb2 HEV1 BE1
  clear ht2
  go_wp2_with fail
  refine (lex_any p _ (HEV2.out.below (by repeat (first | exact Below.refl _ _ | assumption | refine below_drewN ?_ _ | refine Below.setCell ?_ (by first | (simp; done) | (simp; omega)) _ | refine Below.alloc ?_ (by first | (simp; done) | (simp; omega) | omega) _ | refine Below.drew ?_ | refine Below.trans ?_ (Below.mono (by assumption) (by first | (simp; done) | (simp; omega) | omega))))) (by omega)).mono ?_
  rintro e w3 ⟨⟨q3, cap3, rfl, hc3, hm3, ht3⟩, hb3⟩
  rw [HP.out] at hc3 ht3
  simp only [HP.out]
  (try simp only at hc3 ht3)
  have hz3 := hb3.size
  (try simp at hz3)
  have bb3 : Below w2.heap.size w2 w3 := (by repeat (first | exact Below.refl _ _ | assumption | refine below_drewN ?_ _ | refine Below.setCell ?_ (by first | (simp; done) | (simp; omega)) _ | refine Below.alloc ?_ (by first | (simp; done) | (simp; omega) | omega) _ | refine Below.drew ?_ | refine Below.trans ?_ (Below.mono (by assumption) (by first | (simp; done) | (simp; omega) | omega))))
  have BE3 := Lib.hid (show Below w.heap.size w w3 from BE2.out.trans (bb3.mono BE2.out.size))
  have HEV3 := Lib.hid (HEV2.out.below bb3)
  clear hb3 bb3 HEV2 BE2
  clear ht3
  go_wp2_with fail
  refine (lex_any (u ++ r) _ (HEV3.out.below (by repeat (first | exact Below.refl _ _ | assumption | refine below_drewN ?_ _ | refine Below.setCell ?_ (by first | (simp; done) | (simp; omega)) _ | refine Below.alloc ?_ (by first | (simp; done) | (simp; omega) | omega) _ | refine Below.drew ?_ | refine Below.trans ?_ (Below.mono (by assumption) (by first | (simp; done) | (simp; omega) | omega))))) (by simp; omega)).mono ?_
  rintro e w4 ⟨⟨q4, cap4, rfl, hc4, hm4, ht4⟩, hb4⟩
  rw [HO.out] at hc4 ht4
  simp only [HO.out]
  (try simp only at hc4 ht4)
  have hz4 := hb4.size
  (try simp at hz4)
  have bb4 : Below w3.heap.size w3 w4 := (by repeat (first | exact Below.refl _ _ | assumption | refine below_drewN ?_ _ | refine Below.setCell ?_ (by first | (simp; done) | (simp; omega)) _ | refine Below.alloc ?_ (by first | (simp; done) | (simp; omega) | omega) _ | refine Below.drew ?_ | refine Below.trans ?_ (Below.mono (by assumption) (by first | (simp; done) | (simp; omega) | omega))))
  have BE4 := Lib.hid (show Below w.heap.size w w4 from BE3.out.trans (bb4.mono BE3.out.size))
  have HEV4 := Lib.hid (HEV3.out.below bb4)
  clear hb4 bb4 HEV3 BE3
  clear ht4
  go_wp2_with fail
  go_ret
  exact ⟨rfl, (by have q := BE4.out; repeat (first | exact q | refine Below.setCell ?_ (by first | (simp; done) | omega | (simp; omega)) _ | refine Below.alloc ?_ (by first | (simp; done) | omega | (simp; omega)) _ | refine below_drewN ?_ _ | refine Below.drew ?_))⟩
set_option maxRecDepth 100000 in
set_option maxHeartbeats 400000 in
theorem beg_law (s r : List UInt8) (w : World) (hE : Env w) :
    Calls Tryd.prog 7 #[.string ⟨s.toArray⟩, .string ⟨r.toArray⟩] w fun e w' => e = .returned (.bool true) ∧ Below w.heap.size w w' := by
  rcases Nat.lt_or_ge 2000 s.length with hl | hl
  · exact beg_long s r w hl hE
  · rcases Nat.lt_or_ge 500 r.length with hl2 | hl2
    · exact beg_long2 s r w hl hl2 hE
    · rcases Lx.all_cases (s := s) (by omega) with ⟨l, h1, _⟩ | ⟨er, k, h0, h1, h2, h3⟩
      · exact beg_ok s r l w hl hl2 h1 hE
      · obtain ⟨m, hp⟩ := Lx.beg_pre (by omega) h2 h0
        by_cases h4 : er = 4
        · subst h4
          rcases Nat.lt_or_ge (k + 2) s.length with h5 | h5
          · exact beg_other s r k m w hl hl2 h1 h3 hp h5 (Lx.beg_other hl hl2 h2 (by omega)) hE
          · exact beg_last s r k m w hl hl2 h1 h3 hp h5 hE
        · exact beg_err s r er k m w hl hl2 h0 h1 h3 hp h4 hE
end Go.Proofs.YtedeodeejpaioaaDoor

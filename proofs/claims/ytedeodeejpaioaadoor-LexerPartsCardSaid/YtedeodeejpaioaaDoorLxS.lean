/- LexerParts: the law's walk. -/
import Derived.Test.YtedeodeejpaioaaDoorLxQ
namespace Go.Proofs.YtedeodeejpaioaaDoor
open Go.RowKit

set_option maxRecDepth 100000 in
set_option maxHeartbeats 3200000 in
theorem parts_long (s r : List UInt8) (w : World) (hl : 1500 < s.length) (hE : Env w) :
    Calls Tryd.prog 6 #[.string ⟨s.toArray⟩, .string ⟨r.toArray⟩] w fun e w' => e = .returned (.bool true) ∧ Below w.heap.size w w' := by
  have hs := text_size s
  have hr := text_size r
  have b1 : decide (1500 < (s.length : Int)) = true := by simp; omega
  have HEV0 := Lib.hid hE
  clear hE
  go_enter Tryd.func6, Tryd.ntmps6
  go_wp2_with fail
  refine (head_any _ (HEV0.out.below (by repeat (first | exact Below.refl _ _ | assumption | refine below_drewN ?_ _ | refine Below.setCell ?_ (by first | (simp; done) | (simp; omega)) _ | refine Below.alloc ?_ (by first | (simp; done) | (simp; omega) | omega) _ | refine Below.drew ?_ | refine Below.trans ?_ (Below.mono (by assumption) (by first | (simp; done) | (simp; omega) | omega)))))).mono ?_
  rintro e w1 ⟨rfl, hb1⟩
  have hz1 := hb1.size
  (try simp at hz1)
  have bb1 : Below w.heap.size w w1 := (by repeat (first | exact Below.refl _ _ | assumption | refine below_drewN ?_ _ | refine Below.setCell ?_ (by first | (simp; done) | (simp; omega)) _ | refine Below.alloc ?_ (by first | (simp; done) | (simp; omega) | omega) _ | refine Below.drew ?_ | refine Below.trans ?_ (Below.mono (by assumption) (by first | (simp; done) | (simp; omega) | omega))))
  have BE1 := Lib.hid (show Below w.heap.size w w1 from bb1)
  have HEV1 := Lib.hid (HEV0.out.below bb1)
  clear hb1 bb1 HEV0
  go_wp2_with fail
  go_ret
  exact ⟨rfl, (by have q := BE1.out; repeat (first | exact q | refine Below.setCell ?_ (by first | (simp; done) | omega | (simp; omega)) _ | refine Below.alloc ?_ (by first | (simp; done) | omega | (simp; omega)) _ | refine below_drewN ?_ _ | refine Below.drew ?_))⟩
set_option maxRecDepth 100000 in
set_option maxHeartbeats 3200000 in
theorem parts_long2 (s r : List UInt8) (w : World) (hl : s.length ≤ 1500) (hl2 : 1500 < r.length) (hE : Env w) :
    Calls Tryd.prog 6 #[.string ⟨s.toArray⟩, .string ⟨r.toArray⟩] w fun e w' => e = .returned (.bool true) ∧ Below w.heap.size w w' := by
  have hs := text_size s
  have hr := text_size r
  have b1 : decide (1500 < (s.length : Int)) = false := by simp; omega
  have b2 : decide (1500 < (r.length : Int)) = true := by simp; omega
  have HEV0 := Lib.hid hE
  clear hE
  go_enter Tryd.func6, Tryd.ntmps6
  go_wp2_with fail
  refine (head_any _ (HEV0.out.below (by repeat (first | exact Below.refl _ _ | assumption | refine below_drewN ?_ _ | refine Below.setCell ?_ (by first | (simp; done) | (simp; omega)) _ | refine Below.alloc ?_ (by first | (simp; done) | (simp; omega) | omega) _ | refine Below.drew ?_ | refine Below.trans ?_ (Below.mono (by assumption) (by first | (simp; done) | (simp; omega) | omega)))))).mono ?_
  rintro e w1 ⟨rfl, hb1⟩
  have hz1 := hb1.size
  (try simp at hz1)
  have bb1 : Below w.heap.size w w1 := (by repeat (first | exact Below.refl _ _ | assumption | refine below_drewN ?_ _ | refine Below.setCell ?_ (by first | (simp; done) | (simp; omega)) _ | refine Below.alloc ?_ (by first | (simp; done) | (simp; omega) | omega) _ | refine Below.drew ?_ | refine Below.trans ?_ (Below.mono (by assumption) (by first | (simp; done) | (simp; omega) | omega))))
  have BE1 := Lib.hid (show Below w.heap.size w w1 from bb1)
  have HEV1 := Lib.hid (HEV0.out.below bb1)
  clear hb1 bb1 HEV0
  go_wp2_with fail
  go_ret
  exact ⟨rfl, (by have q := BE1.out; repeat (first | exact q | refine Below.setCell ?_ (by first | (simp; done) | omega | (simp; omega)) _ | refine Below.alloc ?_ (by first | (simp; done) | omega | (simp; omega)) _ | refine below_drewN ?_ _ | refine Below.drew ?_))⟩
set_option maxRecDepth 100000 in
set_option maxHeartbeats 3200000 in
theorem parts_err1 (s r : List UInt8) (a b : List Lx.Tk) (er o f p : Int) (w : World) (hl : s.length ≤ 1500) (hl2 : r.length ≤ 1500) (hA : Lx.lexAll s = (a, er, o)) (h0 : er ≠ 0) (hB : Lx.lexAll r = (b, f, p)) (hC : Lx.lexAll (s ++ [10] ++ r) = (a, er, o)) (hE : Env w) :
    Calls Tryd.prog 6 #[.string ⟨s.toArray⟩, .string ⟨r.toArray⟩] w fun e w' => e = .returned (.bool true) ∧ Below w.heap.size w w' := by
  have hs := text_size s
  have hr := text_size r
  have b1 : decide (1500 < (s.length : Int)) = false := by simp; omega
  have b2 : decide (1500 < (r.length : Int)) = false := by simp; omega
  have e1 := bytes_add s [10]
  have e2 := bytes_add (s ++ [10]) r
  have hx1 := text_size [(10 : UInt8)]
  have hx2 := text_size (s ++ [10])
  have hx3 : (s ++ [10]).length = s.length + 1 := by simp
  rw [hx3] at hx2
  obtain ⟨u, hu⟩ : ∃ u, s ++ [10] = u := ⟨_, rfl⟩
  rw [hu] at e1 e2 hx2 hx3 hC
  obtain ⟨z, hz⟩ : ∃ z, u ++ r = z := ⟨_, rfl⟩
  rw [hz] at e2 hC
  have hzl : z.length ≤ 3001 := by rw [← hz, List.length_append]; omega
  have HA := Lib.hid hA
  have HB := Lib.hid hB
  have HC := Lib.hid hC
  clear hA hB hC hu hz hx3
  have b3 : (er != 0) = true := by simpa using h0
  have HEV0 := Lib.hid hE
  clear hE
  go_enter Tryd.func6, Tryd.ntmps6
  go_wp2_with fail
  refine (head_any _ (HEV0.out.below (by repeat (first | exact Below.refl _ _ | assumption | refine below_drewN ?_ _ | refine Below.setCell ?_ (by first | (simp; done) | (simp; omega)) _ | refine Below.alloc ?_ (by first | (simp; done) | (simp; omega) | omega) _ | refine Below.drew ?_ | refine Below.trans ?_ (Below.mono (by assumption) (by first | (simp; done) | (simp; omega) | omega)))))).mono ?_
  rintro e w1 ⟨rfl, hb1⟩
  have hz1 := hb1.size
  (try simp at hz1)
  have bb1 : Below w.heap.size w w1 := (by repeat (first | exact Below.refl _ _ | assumption | refine below_drewN ?_ _ | refine Below.setCell ?_ (by first | (simp; done) | (simp; omega)) _ | refine Below.alloc ?_ (by first | (simp; done) | (simp; omega) | omega) _ | refine Below.drew ?_ | refine Below.trans ?_ (Below.mono (by assumption) (by first | (simp; done) | (simp; omega) | omega))))
  have BE1 := Lib.hid (show Below w.heap.size w w1 from bb1)
  have HEV1 := Lib.hid (HEV0.out.below bb1)
  clear hb1 bb1 HEV0
  go_wp2_with fail
  refine (lex_any s _ (HEV1.out.below (by repeat (first | exact Below.refl _ _ | assumption | refine below_drewN ?_ _ | refine Below.setCell ?_ (by first | (simp; done) | (simp; omega)) _ | refine Below.alloc ?_ (by first | (simp; done) | (simp; omega) | omega) _ | refine Below.drew ?_ | refine Below.trans ?_ (Below.mono (by assumption) (by first | (simp; done) | (simp; omega) | omega))))) (by omega)).mono ?_
  rintro e w2 ⟨⟨q2, cap2, rfl, hc2, hm2, ht2⟩, hb2⟩
  rw [HA.out] at hc2 ht2
  simp only [HA.out]
  (try simp only at hc2 ht2)
  have hz2 := hb2.size
  (try simp at hz2)
  have bb2 : Below w1.heap.size w1 w2 := (by repeat (first | exact Below.refl _ _ | assumption | refine below_drewN ?_ _ | refine Below.setCell ?_ (by first | (simp; done) | (simp; omega)) _ | refine Below.alloc ?_ (by first | (simp; done) | (simp; omega) | omega) _ | refine Below.drew ?_ | refine Below.trans ?_ (Below.mono (by assumption) (by first | (simp; done) | (simp; omega) | omega))))
  have BE2 := Lib.hid (show Below w.heap.size w w2 from BE1.out.trans (bb2.mono BE1.out.size))
  have HEV2 := Lib.hid (HEV1.out.below bb2)
  clear hb2 bb2 HEV1 BE1
  clear ht2
  go_wp2_with fail
  refine (lex_any r _ (HEV2.out.below (by repeat (first | exact Below.refl _ _ | assumption | refine below_drewN ?_ _ | refine Below.setCell ?_ (by first | (simp; done) | (simp; omega)) _ | refine Below.alloc ?_ (by first | (simp; done) | (simp; omega) | omega) _ | refine Below.drew ?_ | refine Below.trans ?_ (Below.mono (by assumption) (by first | (simp; done) | (simp; omega) | omega))))) (by omega)).mono ?_
  rintro e w3 ⟨⟨q3, cap3, rfl, hc3, hm3, ht3⟩, hb3⟩
  rw [HB.out] at hc3 ht3
  simp only [HB.out]
  (try simp only at hc3 ht3)
  have hz3 := hb3.size
  (try simp at hz3)
  have bb3 : Below w2.heap.size w2 w3 := (by repeat (first | exact Below.refl _ _ | assumption | refine below_drewN ?_ _ | refine Below.setCell ?_ (by first | (simp; done) | (simp; omega)) _ | refine Below.alloc ?_ (by first | (simp; done) | (simp; omega) | omega) _ | refine Below.drew ?_ | refine Below.trans ?_ (Below.mono (by assumption) (by first | (simp; done) | (simp; omega) | omega))))
  have BE3 := Lib.hid (show Below w.heap.size w w3 from BE2.out.trans (bb3.mono BE2.out.size))
  have HEV3 := Lib.hid (HEV2.out.below bb3)
  clear hb3 bb3 HEV2 BE2
  clear ht3
  go_wp2_with fail
  refine (lex_any z _ (HEV3.out.below (by repeat (first | exact Below.refl _ _ | assumption | refine below_drewN ?_ _ | refine Below.setCell ?_ (by first | (simp; done) | (simp; omega)) _ | refine Below.alloc ?_ (by first | (simp; done) | (simp; omega) | omega) _ | refine Below.drew ?_ | refine Below.trans ?_ (Below.mono (by assumption) (by first | (simp; done) | (simp; omega) | omega))))) (by omega)).mono ?_
  rintro e w4 ⟨⟨q4, cap4, rfl, hc4, hm4, ht4⟩, hb4⟩
  rw [HC.out] at hc4 ht4
  simp only [HC.out]
  (try simp only at hc4 ht4)
  have hz4 := hb4.size
  (try simp at hz4)
  have bb4 : Below w3.heap.size w3 w4 := (by repeat (first | exact Below.refl _ _ | assumption | refine below_drewN ?_ _ | refine Below.setCell ?_ (by first | (simp; done) | (simp; omega)) _ | refine Below.alloc ?_ (by first | (simp; done) | (simp; omega) | omega) _ | refine Below.drew ?_ | refine Below.trans ?_ (Below.mono (by assumption) (by first | (simp; done) | (simp; omega) | omega))))
  have BE4 := Lib.hid (show Below w.heap.size w w4 from BE3.out.trans (bb4.mono BE3.out.size))
  have HEV4 := Lib.hid (HEV3.out.below bb4)
  clear hb4 bb4 HEV3 BE3
  clear ht4
  go_wp2_with fail
  go_ret
  exact ⟨rfl, (by have q := BE4.out; repeat (first | exact q | refine Below.setCell ?_ (by first | (simp; done) | omega | (simp; omega)) _ | refine Below.alloc ?_ (by first | (simp; done) | omega | (simp; omega)) _ | refine below_drewN ?_ _ | refine Below.drew ?_))⟩
set_option maxRecDepth 100000 in
set_option maxHeartbeats 3200000 in
theorem parts_err2 (s r : List UInt8) (a b : List Lx.Tk) (er : Int) (k : Nat) (w : World) (hl : s.length ≤ 1500) (hl2 : r.length ≤ 1500) (hk : k < r.length) (hA : Lx.lexAll s = (a, 0, 0)) (h0 : er ≠ 0) (hB : Lx.lexAll r = (b, er, (k : Int))) (hC : Lx.lexAll (s ++ [10] ++ r) = (b, er, (k : Int) + (s.length : Int) + 1)) (hE : Env w) :
    Calls Tryd.prog 6 #[.string ⟨s.toArray⟩, .string ⟨r.toArray⟩] w fun e w' => e = .returned (.bool true) ∧ Below w.heap.size w w' := by
  have hs := text_size s
  have hr := text_size r
  have b1 : decide (1500 < (s.length : Int)) = false := by simp; omega
  have b2 : decide (1500 < (r.length : Int)) = false := by simp; omega
  have e1 := bytes_add s [10]
  have e2 := bytes_add (s ++ [10]) r
  have hx1 := text_size [(10 : UInt8)]
  have hx2 := text_size (s ++ [10])
  have hx3 : (s ++ [10]).length = s.length + 1 := by simp
  rw [hx3] at hx2
  obtain ⟨u, hu⟩ : ∃ u, s ++ [10] = u := ⟨_, rfl⟩
  rw [hu] at e1 e2 hx2 hx3 hC
  obtain ⟨z, hz⟩ : ∃ z, u ++ r = z := ⟨_, rfl⟩
  rw [hz] at e2 hC
  have hzl : z.length ≤ 3001 := by rw [← hz, List.length_append]; omega
  have HA := Lib.hid hA
  have HB := Lib.hid hB
  have HC := Lib.hid hC
  clear hA hB hC hu hz hx3
  have b3 : (er != 0) = true := by simpa using h0
  have HEV0 := Lib.hid hE
  clear hE
  go_enter Tryd.func6, Tryd.ntmps6
  go_wp2_with fail
  refine (head_any _ (HEV0.out.below (by repeat (first | exact Below.refl _ _ | assumption | refine below_drewN ?_ _ | refine Below.setCell ?_ (by first | (simp; done) | (simp; omega)) _ | refine Below.alloc ?_ (by first | (simp; done) | (simp; omega) | omega) _ | refine Below.drew ?_ | refine Below.trans ?_ (Below.mono (by assumption) (by first | (simp; done) | (simp; omega) | omega)))))).mono ?_
  rintro e w1 ⟨rfl, hb1⟩
  have hz1 := hb1.size
  (try simp at hz1)
  have bb1 : Below w.heap.size w w1 := (by repeat (first | exact Below.refl _ _ | assumption | refine below_drewN ?_ _ | refine Below.setCell ?_ (by first | (simp; done) | (simp; omega)) _ | refine Below.alloc ?_ (by first | (simp; done) | (simp; omega) | omega) _ | refine Below.drew ?_ | refine Below.trans ?_ (Below.mono (by assumption) (by first | (simp; done) | (simp; omega) | omega))))
  have BE1 := Lib.hid (show Below w.heap.size w w1 from bb1)
  have HEV1 := Lib.hid (HEV0.out.below bb1)
  clear hb1 bb1 HEV0
  go_wp2_with fail
  refine (lex_any s _ (HEV1.out.below (by repeat (first | exact Below.refl _ _ | assumption | refine below_drewN ?_ _ | refine Below.setCell ?_ (by first | (simp; done) | (simp; omega)) _ | refine Below.alloc ?_ (by first | (simp; done) | (simp; omega) | omega) _ | refine Below.drew ?_ | refine Below.trans ?_ (Below.mono (by assumption) (by first | (simp; done) | (simp; omega) | omega))))) (by omega)).mono ?_
  rintro e w2 ⟨⟨q2, cap2, rfl, hc2, hm2, ht2⟩, hb2⟩
  rw [HA.out] at hc2 ht2
  simp only [HA.out]
  (try simp only at hc2 ht2)
  have hz2 := hb2.size
  (try simp at hz2)
  have bb2 : Below w1.heap.size w1 w2 := (by repeat (first | exact Below.refl _ _ | assumption | refine below_drewN ?_ _ | refine Below.setCell ?_ (by first | (simp; done) | (simp; omega)) _ | refine Below.alloc ?_ (by first | (simp; done) | (simp; omega) | omega) _ | refine Below.drew ?_ | refine Below.trans ?_ (Below.mono (by assumption) (by first | (simp; done) | (simp; omega) | omega))))
  have BE2 := Lib.hid (show Below w.heap.size w w2 from BE1.out.trans (bb2.mono BE1.out.size))
  have HEV2 := Lib.hid (HEV1.out.below bb2)
  clear hb2 bb2 HEV1 BE1
  clear ht2
  go_wp2_with fail
  refine (lex_any r _ (HEV2.out.below (by repeat (first | exact Below.refl _ _ | assumption | refine below_drewN ?_ _ | refine Below.setCell ?_ (by first | (simp; done) | (simp; omega)) _ | refine Below.alloc ?_ (by first | (simp; done) | (simp; omega) | omega) _ | refine Below.drew ?_ | refine Below.trans ?_ (Below.mono (by assumption) (by first | (simp; done) | (simp; omega) | omega))))) (by omega)).mono ?_
  rintro e w3 ⟨⟨q3, cap3, rfl, hc3, hm3, ht3⟩, hb3⟩
  rw [HB.out] at hc3 ht3
  simp only [HB.out]
  (try simp only at hc3 ht3)
  have hz3 := hb3.size
  (try simp at hz3)
  have bb3 : Below w2.heap.size w2 w3 := (by repeat (first | exact Below.refl _ _ | assumption | refine below_drewN ?_ _ | refine Below.setCell ?_ (by first | (simp; done) | (simp; omega)) _ | refine Below.alloc ?_ (by first | (simp; done) | (simp; omega) | omega) _ | refine Below.drew ?_ | refine Below.trans ?_ (Below.mono (by assumption) (by first | (simp; done) | (simp; omega) | omega))))
  have BE3 := Lib.hid (show Below w.heap.size w w3 from BE2.out.trans (bb3.mono BE2.out.size))
  have HEV3 := Lib.hid (HEV2.out.below bb3)
  clear hb3 bb3 HEV2 BE2
  clear ht3
  go_wp2_with fail
  refine (lex_any z _ (HEV3.out.below (by repeat (first | exact Below.refl _ _ | assumption | refine below_drewN ?_ _ | refine Below.setCell ?_ (by first | (simp; done) | (simp; omega)) _ | refine Below.alloc ?_ (by first | (simp; done) | (simp; omega) | omega) _ | refine Below.drew ?_ | refine Below.trans ?_ (Below.mono (by assumption) (by first | (simp; done) | (simp; omega) | omega))))) (by omega)).mono ?_
  rintro e w4 ⟨⟨q4, cap4, rfl, hc4, hm4, ht4⟩, hb4⟩
  rw [HC.out] at hc4 ht4
  simp only [HC.out]
  (try simp only at hc4 ht4)
  have hz4 := hb4.size
  (try simp at hz4)
  have bb4 : Below w3.heap.size w3 w4 := (by repeat (first | exact Below.refl _ _ | assumption | refine below_drewN ?_ _ | refine Below.setCell ?_ (by first | (simp; done) | (simp; omega)) _ | refine Below.alloc ?_ (by first | (simp; done) | (simp; omega) | omega) _ | refine Below.drew ?_ | refine Below.trans ?_ (Below.mono (by assumption) (by first | (simp; done) | (simp; omega) | omega))))
  have BE4 := Lib.hid (show Below w.heap.size w w4 from BE3.out.trans (bb4.mono BE3.out.size))
  have HEV4 := Lib.hid (HEV3.out.below bb4)
  clear hb4 bb4 HEV3 BE3
  clear ht4
  go_wp2_with fail
  go_ret
  exact ⟨rfl, (by have q := BE4.out; repeat (first | exact q | refine Below.setCell ?_ (by first | (simp; done) | omega | (simp; omega)) _ | refine Below.alloc ?_ (by first | (simp; done) | omega | (simp; omega)) _ | refine below_drewN ?_ _ | refine Below.drew ?_))⟩
theorem Toks.left {w : World} {p : Option Addr} {a b : List Lx.Tk} (h : Toks w p (a ++ b)) : Toks w p a := by
  rcases h with h | ⟨bk, off, hp, h⟩
  · exact .inl (List.append_eq_nil_iff.1 h).1
  · exact .inr ⟨bk, off, hp, fun j t ht => h j t (by rw [List.getElem?_append_left (List.getElem?_eq_some_iff.1 ht).1]; exact ht)⟩
theorem Toks.right {w : World} {p : Option Addr} {a b : List Lx.Tk} (h : Toks w p (a ++ b)) : Toks w (p.map fun x => x.add (a.length * 4)) b := by
  rcases h with h | ⟨bk, off, rfl, h⟩
  · exact .inl (List.append_eq_nil_iff.1 h).2
  · refine .inr ⟨bk, off + a.length * 4, by rw [Option.map_some, Go.WideShapes.add_plain], fun j t ht => ?_⟩
    have := h (a.length + j) t (by rw [List.getElem?_append_right (by omega), Nat.add_sub_cancel_left]; exact ht)
    rwa [Nat.add_mul, ← Nat.add_assoc] at this
theorem same_len (p q : Option Addr) (c d : Nat) (a b : List Lx.Tk) (n m : Nat) (z : Int) (w : World) (hp : Toks w p a) (hq : Toks w q b) (hn : a.length = n) (hn2 : b.length = n) (hm : n ≤ 4294967280) (hz : z = (m : Int)) (hm2 : m ≤ 4294967280) (ha : ∀ (k : Nat) x y, a[k]? = some x → b[k]? = some y → Lx.bare x = Lx.bare y ∧ x.off + m = y.off) (ho : ∀ x ∈ a, x.off ≤ 4294967280) :
    Calls Tryd.prog 13 #[.slice p n c, .int .i64 z, .slice q n d] w fun e w' => e = .returned (.bool true) ∧ ∃ n, w' = w.drewN n := by
  subst hn hz
  have h := same_true p q c d a b m w hp hq hn2.symm hm ha ho hm2
  rwa [hn2] at h
set_option maxRecDepth 100000 in
set_option maxHeartbeats 3200000 in
theorem parts_ok (s r : List UInt8) (a b m : List Lx.Tk) (w : World) (hl : s.length ≤ 1500) (hl2 : r.length ≤ 1500) (hA : Lx.lexAll s = (a, 0, 0)) (hB : Lx.lexAll r = (b, 0, 0)) (hC : Lx.lexAll (s ++ [10] ++ r) = (a ++ m, 0, 0)) (ha1 : a.length ≤ 1500) (hb1 : b.length ≤ 1500) (hlm : b.length = m.length) (hoa : ∀ x ∈ a, x.off ≤ 4294967280) (hob : ∀ x ∈ b, x.off ≤ 4294967280) (hbm : ∀ (k : Nat) x y, b[k]? = some x → m[k]? = some y → Lx.bare x = Lx.bare y ∧ x.off + (s.length + 1) = y.off) (hE : Env w) :
    Calls Tryd.prog 6 #[.string ⟨s.toArray⟩, .string ⟨r.toArray⟩] w fun e w' => e = .returned (.bool true) ∧ Below w.heap.size w w' := by
  have hs := text_size s
  have hr := text_size r
  have b1 : decide (1500 < (s.length : Int)) = false := by simp; omega
  have b2 : decide (1500 < (r.length : Int)) = false := by simp; omega
  have e1 := bytes_add s [10]
  have e2 := bytes_add (s ++ [10]) r
  have hx1 := text_size [(10 : UInt8)]
  have hx2 := text_size (s ++ [10])
  have hx3 : (s ++ [10]).length = s.length + 1 := by simp
  rw [hx3] at hx2
  obtain ⟨u, hu⟩ : ∃ u, s ++ [10] = u := ⟨_, rfl⟩
  rw [hu] at e1 e2 hx2 hx3 hC
  obtain ⟨z, hz⟩ : ∃ z, u ++ r = z := ⟨_, rfl⟩
  rw [hz] at e2 hC
  have hzl : z.length ≤ 3001 := by rw [← hz, List.length_append]; omega
  have HA := Lib.hid hA
  have HB := Lib.hid hB
  have HC := Lib.hid hC
  clear hA hB hC hu hz hx3
  have HLM := Lib.hid hlm
  have HOA := Lib.hid hoa
  have HOB := Lib.hid hob
  have HBM := Lib.hid hbm
  clear hlm hoa hob hbm
  have HEV0 := Lib.hid hE
  clear hE
  go_enter Tryd.func6, Tryd.ntmps6
  go_wp2_with fail
  refine (head_any _ (HEV0.out.below (by repeat (first | exact Below.refl _ _ | assumption | refine below_drewN ?_ _ | refine Below.setCell ?_ (by first | (simp; done) | (simp; omega)) _ | refine Below.alloc ?_ (by first | (simp; done) | (simp; omega) | omega) _ | refine Below.drew ?_ | refine Below.trans ?_ (Below.mono (by assumption) (by first | (simp; done) | (simp; omega) | omega)))))).mono ?_
  rintro e w1 ⟨rfl, hb1⟩
  have hz1 := hb1.size
  (try simp at hz1)
  have bb1 : Below w.heap.size w w1 := (by repeat (first | exact Below.refl _ _ | assumption | refine below_drewN ?_ _ | refine Below.setCell ?_ (by first | (simp; done) | (simp; omega)) _ | refine Below.alloc ?_ (by first | (simp; done) | (simp; omega) | omega) _ | refine Below.drew ?_ | refine Below.trans ?_ (Below.mono (by assumption) (by first | (simp; done) | (simp; omega) | omega))))
  have BE1 := Lib.hid (show Below w.heap.size w w1 from bb1)
  have HEV1 := Lib.hid (HEV0.out.below bb1)
  clear hb1 bb1 HEV0
  go_wp2_with fail
  refine (lex_any s _ (HEV1.out.below (by repeat (first | exact Below.refl _ _ | assumption | refine below_drewN ?_ _ | refine Below.setCell ?_ (by first | (simp; done) | (simp; omega)) _ | refine Below.alloc ?_ (by first | (simp; done) | (simp; omega) | omega) _ | refine Below.drew ?_ | refine Below.trans ?_ (Below.mono (by assumption) (by first | (simp; done) | (simp; omega) | omega))))) (by omega)).mono ?_
  rintro e w2 ⟨⟨q2, cap2, rfl, hc2, hm2, ht2⟩, hb2⟩
  rw [HA.out] at hc2 ht2
  simp only [HA.out]
  (try simp only at hc2 ht2)
  have hz2 := hb2.size
  (try simp at hz2)
  have bb2 : Below w1.heap.size w1 w2 := (by repeat (first | exact Below.refl _ _ | assumption | refine below_drewN ?_ _ | refine Below.setCell ?_ (by first | (simp; done) | (simp; omega)) _ | refine Below.alloc ?_ (by first | (simp; done) | (simp; omega) | omega) _ | refine Below.drew ?_ | refine Below.trans ?_ (Below.mono (by assumption) (by first | (simp; done) | (simp; omega) | omega))))
  have BE2 := Lib.hid (show Below w.heap.size w w2 from BE1.out.trans (bb2.mono BE1.out.size))
  have HEV2 := Lib.hid (HEV1.out.below bb2)
  have TA2 := Lib.hid ht2
  clear hb2 bb2 HEV1 BE1
  clear ht2
  go_wp2_with fail
  refine (lex_any r _ (HEV2.out.below (by repeat (first | exact Below.refl _ _ | assumption | refine below_drewN ?_ _ | refine Below.setCell ?_ (by first | (simp; done) | (simp; omega)) _ | refine Below.alloc ?_ (by first | (simp; done) | (simp; omega) | omega) _ | refine Below.drew ?_ | refine Below.trans ?_ (Below.mono (by assumption) (by first | (simp; done) | (simp; omega) | omega))))) (by omega)).mono ?_
  rintro e w3 ⟨⟨q3, cap3, rfl, hc3, hm3, ht3⟩, hb3⟩
  rw [HB.out] at hc3 ht3
  simp only [HB.out]
  (try simp only at hc3 ht3)
  have hz3 := hb3.size
  (try simp at hz3)
  have bb3 : Below w2.heap.size w2 w3 := (by repeat (first | exact Below.refl _ _ | assumption | refine below_drewN ?_ _ | refine Below.setCell ?_ (by first | (simp; done) | (simp; omega)) _ | refine Below.alloc ?_ (by first | (simp; done) | (simp; omega) | omega) _ | refine Below.drew ?_ | refine Below.trans ?_ (Below.mono (by assumption) (by first | (simp; done) | (simp; omega) | omega))))
  have BE3 := Lib.hid (show Below w.heap.size w w3 from BE2.out.trans (bb3.mono BE2.out.size))
  have HEV3 := Lib.hid (HEV2.out.below bb3)
  have TA3 := Lib.hid (TA2.out.below bb3)
  have TB3 := Lib.hid ht3
  clear hb3 bb3 HEV2 TA2 BE2
  clear ht3
  go_wp2_with fail
  refine (lex_any z _ (HEV3.out.below (by repeat (first | exact Below.refl _ _ | assumption | refine below_drewN ?_ _ | refine Below.setCell ?_ (by first | (simp; done) | (simp; omega)) _ | refine Below.alloc ?_ (by first | (simp; done) | (simp; omega) | omega) _ | refine Below.drew ?_ | refine Below.trans ?_ (Below.mono (by assumption) (by first | (simp; done) | (simp; omega) | omega))))) (by omega)).mono ?_
  rintro e w4 ⟨⟨q4, cap4, rfl, hc4, hm4, ht4⟩, hb4⟩
  rw [HC.out] at hc4 ht4
  simp only [HC.out]
  (try simp only at hc4 ht4)
  have hz4 := hb4.size
  (try simp at hz4)
  have bb4 : Below w3.heap.size w3 w4 := (by repeat (first | exact Below.refl _ _ | assumption | refine below_drewN ?_ _ | refine Below.setCell ?_ (by first | (simp; done) | (simp; omega)) _ | refine Below.alloc ?_ (by first | (simp; done) | (simp; omega) | omega) _ | refine Below.drew ?_ | refine Below.trans ?_ (Below.mono (by assumption) (by first | (simp; done) | (simp; omega) | omega))))
  have BE4 := Lib.hid (show Below w.heap.size w w4 from BE3.out.trans (bb4.mono BE3.out.size))
  have HEV4 := Lib.hid (HEV3.out.below bb4)
  have TA4 := Lib.hid (TA3.out.below bb4)
  have TB4 := Lib.hid (TB3.out.below bb4)
  have TC4 := Lib.hid ht4
  clear hb4 bb4 HEV3 TA3 TB3 BE3
  clear ht4
  have hml : m.length = b.length := HLM.out.symm
  have hcc : a.length + b.length ≤ cap4 := by have q := hc4; rw [List.length_append] at q; omega
  have hc0 : a.length ≤ cap4 := by omega
  clear hc4
  go_wp2_with fail
  refine (same_zero q2 q4 cap2 cap4 a _ TA4.out TC4.out.left (by omega) HOA.out).mono ?_
  rintro e w' ⟨rfl, n1, rfl⟩
  by_cases hcap : cap4 = a.length
  · have hb0 : b.length = 0 := by omega
    have hbn := List.length_eq_zero_iff.1 hb0
    have hmn := List.length_eq_zero_iff.1 (hml.trans hb0)
    have HBN := Lib.hid hbn
    have HMN := Lib.hid hmn
    clear hb0 hbn hmn
    go_wp2_with fail
    refine (same_len q3 _ cap3 _ b m b.length (s.length + 1) _ _ (by rw [HBN.out]; exact .inl rfl) (by rw [HMN.out]; exact .inl rfl) rfl hml (by omega) rfl (by omega) (by rw [HBN.out]; intro k x y hx; simp at hx) (by rw [HBN.out]; simp)).mono ?_
    rintro e w' ⟨rfl, n2, rfl⟩
    go_wp2_with fail
    go_ret
    exact ⟨rfl, (by have q := BE4.out; repeat (first | exact q | refine Below.setCell ?_ (by first | (simp; done) | omega | (simp; omega)) _ | refine Below.alloc ?_ (by first | (simp; done) | omega | (simp; omega)) _ | refine below_drewN ?_ _ | refine Below.drew ?_))⟩
  · have hcn : ¬ cap4 - a.length = 0 := by omega
    go_wp2_with fail
    refine (same_len q3 _ cap3 _ b m b.length (s.length + 1) _ _ (TB4.out.drewN _) (TC4.out.right.drewN _) rfl hml (by omega) rfl (by omega) HBM.out HOB.out).mono ?_
    rintro e w' ⟨rfl, n2, rfl⟩
    go_wp2_with fail
    go_ret
    exact ⟨rfl, (by have q := BE4.out; repeat (first | exact q | refine Below.setCell ?_ (by first | (simp; done) | omega | (simp; omega)) _ | refine Below.alloc ?_ (by first | (simp; done) | omega | (simp; omega)) _ | refine below_drewN ?_ _ | refine Below.drew ?_))⟩
theorem parts_law (s r : List UInt8) (w : World) (hE : Env w) : Calls Tryd.prog 6 #[.string ⟨s.toArray⟩, .string ⟨r.toArray⟩] w fun e w' => e = .returned (.bool true) ∧ Below w.heap.size w w' := by
  rcases Nat.lt_or_ge 1500 s.length with hl | hl
  · exact parts_long s r w hl hE
  · rcases Nat.lt_or_ge 1500 r.length with hl2 | hl2
    · exact parts_long2 s r w hl hl2 hE
    · rcases Lx.all_cases (s := r) (by omega) with ⟨b, h1, h2⟩ | ⟨f, j, h0, h1, h2, h3⟩
      · rcases Lx.all_cases (s := s) (by omega) with ⟨a, g1, g2⟩ | ⟨er, k, g0, g1, g2, g3⟩
        · have ca := Lx.lexU_count s 0
          have cb := Lx.lexU_count r 0
          rw [g2] at ca
          rw [h2] at cb
          simp only at ca cb
          refine parts_ok s r a b _ w hl hl2 g1 h1 (Lx.parts_ok hl hl2 g2 h2) (by omega) (by omega) (by rw [List.length_map]) (fun x hx => by have := (Lx.all_chain g2).offs x hx; omega) (fun x hx => by have := (Lx.all_chain h2).offs x hx; omega) (fun k x y hx hy => ?_) hE
          rw [List.getElem?_map, hx] at hy
          cases hy
          exact ⟨rfl, rfl⟩
        · exact parts_err1 s r [] b er k 0 0 w hl hl2 g1 g0 h1 (Lx.parts_err hl hl2 g0 g2) hE
      · rcases Lx.all_cases (s := s) (by omega) with ⟨a, g1, g2⟩ | ⟨er, k, g0, g1, g2, g3⟩
        · exact parts_err2 s r a [] f j w hl hl2 h3 g1 h0 h1 (Lx.parts_err2 hl hl2 h0 g2 h2) hE
        · exact parts_err1 s r [] [] er k f j w hl hl2 g1 g0 h1 (Lx.parts_err hl hl2 g0 g2) hE
end Go.Proofs.YtedeodeejpaioaaDoor

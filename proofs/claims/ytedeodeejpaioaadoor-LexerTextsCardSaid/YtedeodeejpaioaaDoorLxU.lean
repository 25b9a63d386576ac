/- LexerTexts: the law's walk. -/
import Derived.Test.YtedeodeejpaioaaDoorLxN
namespace Go.Proofs.YtedeodeejpaioaaDoor
open Go.RowKit

set_option maxRecDepth 100000 in
set_option maxHeartbeats 3200000 in
theorem texts_long (s : List UInt8) (w : World) (hl : 3000 < s.length) (hE : Env w) :
    Calls Tryd.prog 4 #[.string ⟨s.toArray⟩] w fun e w' => e = .returned (.bool true) ∧ Below w.heap.size w w' := by
  have hs := text_size s
  have b1 : decide (3000 < (s.length : Int)) = true := by simp; omega
  have HEV0 := Lib.hid hE
  clear hE
  go_enter Tryd.func4, Tryd.ntmps4
  go_wp2_with fail
  refine (head_any _ (HEV0.out.below (by repeat (first | exact Below.refl _ _ | assumption | refine below_drewN ?_ _ | refine Below.setCell ?_ (by first | (simp; done) | (simp; omega)) _ | refine Below.alloc ?_ (by first | (simp; done) | (simp; omega) | omega) _ | refine Below.drew ?_ | refine Below.trans ?_ (Below.mono (by assumption) (by first | (simp; done) | (simp; omega) | omega)))))).mono ?_
  rintro e w1 ⟨rfl, hb1⟩
  have hz1 := hb1.size
  (try simp at hz1)
  have bb1 : Below w.heap.size w w1 := (by repeat (first | exact Below.refl _ _ | assumption | refine below_drewN ?_ _ | refine Below.setCell ?_ (by first | (simp; done) | (simp; omega)) _ | refine Below.alloc ?_ (by first | (simp; done) | (simp; omega) | omega) _ | refine Below.drew ?_ | refine Below.trans ?_ (Below.mono (by assumption) (by first | (simp; done) | (simp; omega) | omega))))
  have BE1 := Lib.hid (show Below w.heap.size w w1 from bb1)
  have HEV1 := Lib.hid (HEV0.out.below bb1)
  clear hb1 bb1 HEV0
  go_wp2_with fail
  go_ret
  exact ⟨rfl, (by have q := BE1.out; repeat (first | exact q | refine Below.setCell ?_ (by first | (simp; done) | omega | (simp; omega)) _ | refine Below.alloc ?_ (by first | (simp; done) | omega | (simp; omega)) _ | refine below_drewN ?_ _ | refine Below.drew ?_))⟩
set_option maxRecDepth 100000 in
set_option maxHeartbeats 3200000 in
theorem texts_err (s : List UInt8) (er : Int) (k : Nat) (w : World) (hl : s.length ≤ 3000) (hL : Lx.lexAll s = ([], er, (k : Int))) (h0 : er ≠ 0) (hk : k < s.length) (hE : Env w) :
    Calls Tryd.prog 4 #[.string ⟨s.toArray⟩] w fun e w' => e = .returned (.bool true) ∧ Below w.heap.size w w' := by
  have hs := text_size s
  have b1 : decide (3000 < (s.length : Int)) = false := by simp; omega
  have HL := Lib.hid hL
  clear hL
  have b2 : (er != 0) = true := by simpa using h0
  have b3 : decide (0 ≤ (k : Int)) = true := by simp
  have b4 : decide ((k : Int) < (s.length : Int)) = true := by simp; omega
  have HEV0 := Lib.hid hE
  clear hE
  go_enter Tryd.func4, Tryd.ntmps4
  go_wp2_with fail
  refine (head_any _ (HEV0.out.below (by repeat (first | exact Below.refl _ _ | assumption | refine below_drewN ?_ _ | refine Below.setCell ?_ (by first | (simp; done) | (simp; omega)) _ | refine Below.alloc ?_ (by first | (simp; done) | (simp; omega) | omega) _ | refine Below.drew ?_ | refine Below.trans ?_ (Below.mono (by assumption) (by first | (simp; done) | (simp; omega) | omega)))))).mono ?_
  rintro e w1 ⟨rfl, hb1⟩
  have hz1 := hb1.size
  (try simp at hz1)
  have bb1 : Below w.heap.size w w1 := (by repeat (first | exact Below.refl _ _ | assumption | refine below_drewN ?_ _ | refine Below.setCell ?_ (by first | (simp; done) | (simp; omega)) _ | refine Below.alloc ?_ (by first | (simp; done) | (simp; omega) | omega) _ | refine Below.drew ?_ | refine Below.trans ?_ (Below.mono (by assumption) (by first | (simp; done) | (simp; omega) | omega))))
  have BE1 := Lib.hid (show Below w.heap.size w w1 from bb1)
  have HEV1 := Lib.hid (HEV0.out.below bb1)
  clear hb1 bb1 HEV0
  go_wp2_with fail
  refine (lex_any s _ (HEV1.out.below (by repeat (first | exact Below.refl _ _ | assumption | refine below_drewN ?_ _ | refine Below.setCell ?_ (by first | (simp; done) | (simp; omega)) _ | refine Below.alloc ?_ (by first | (simp; done) | (simp; omega) | omega) _ | refine Below.drew ?_ | refine Below.trans ?_ (Below.mono (by assumption) (by first | (simp; done) | (simp; omega) | omega))))) (by omega)).mono ?_
  rintro e w2 ⟨⟨q2, cap2, rfl, hc2, hm2, ht2⟩, hb2⟩
  rw [HL.out] at hc2 ht2
  simp only [HL.out]
  (try simp only at hc2 ht2)
  have hz2 := hb2.size
  (try simp at hz2)
  have bb2 : Below w1.heap.size w1 w2 := (by repeat (first | exact Below.refl _ _ | assumption | refine below_drewN ?_ _ | refine Below.setCell ?_ (by first | (simp; done) | (simp; omega)) _ | refine Below.alloc ?_ (by first | (simp; done) | (simp; omega) | omega) _ | refine Below.drew ?_ | refine Below.trans ?_ (Below.mono (by assumption) (by first | (simp; done) | (simp; omega) | omega))))
  have BE2 := Lib.hid (show Below w.heap.size w w2 from BE1.out.trans (bb2.mono BE1.out.size))
  have HEV2 := Lib.hid (HEV1.out.below bb2)
  clear hb2 bb2 HEV1 BE1
  clear ht2
  go_wp2_with fail
  go_ret
  exact ⟨rfl, (by have q := BE2.out; repeat (first | exact q | refine Below.setCell ?_ (by first | (simp; done) | omega | (simp; omega)) _ | refine Below.alloc ?_ (by first | (simp; done) | omega | (simp; omega)) _ | refine below_drewN ?_ _ | refine Below.drew ?_))⟩
theorem gaps_yes (g : List UInt8) (w : World) (hl : g.length ≤ 4294967280) (hg : Lx.gapN g false = g.length) :
    Calls Tryd.prog 14 #[.string ⟨g.toArray⟩] w fun e w' => e = .returned (.bool true) ∧ w = w' := by
  have h := gaps_any g w hl
  rwa [decide_eq_true hg] at h
theorem gaps_q (g : List UInt8) (w : World) (n : Nat) (hl : g.length ≤ 4294967280) (hg : Lx.gapN g false = g.length) :
    Calls Tryd.prog 14 #[.string ⟨g.toArray⟩] (w.drewN n) fun e w' => e = .returned (.bool true) ∧ ∃ m, w' = w.drewN m :=
  (gaps_yes g _ hl hg).mono fun _ _ ⟨h1, h2⟩ => ⟨h1, n, h2.symm⟩
theorem text_sub (s : List UInt8) (a b : Nat) (h : a ≤ b) : (⟨s.toArray⟩ : ByteArray).extract a b = ⟨((s.drop a).take (b - a)).toArray⟩ := by
  have h2 := text_cut s a (b - a)
  rwa [show a + (b - a) = b by omega] at h2
set_option maxRecDepth 100000 in
set_option maxHeartbeats 3200000 in
theorem texts_ok (s : List UInt8) (l : List Lx.Tk) (w : World) (hl : s.length ≤ 3000) (hL : Lx.lexAll s = (l, 0, 0)) (hll : l.length ≤ 3000) (hC : Lx.Chain s 0 l) (hE : Env w) :
    Calls Tryd.prog 4 #[.string ⟨s.toArray⟩] w fun e w' => e = .returned (.bool true) ∧ Below w.heap.size w w' := by
  have hs := text_size s
  have b1 : decide (3000 < (s.length : Int)) = false := by simp; omega
  have HL := Lib.hid hL
  clear hL
  have HC := Lib.hid (show Lx.Chain s 0 (l.drop 0) from hC)
  clear hC
  have HEV0 := Lib.hid hE
  clear hE
  go_enter Tryd.func4, Tryd.ntmps4
  go_wp2_with fail
  refine (head_any _ (HEV0.out.below (by repeat (first | exact Below.refl _ _ | assumption | refine below_drewN ?_ _ | refine Below.setCell ?_ (by first | (simp; done) | (simp; omega)) _ | refine Below.alloc ?_ (by first | (simp; done) | (simp; omega) | omega) _ | refine Below.drew ?_ | refine Below.trans ?_ (Below.mono (by assumption) (by first | (simp; done) | (simp; omega) | omega)))))).mono ?_
  rintro e w1 ⟨rfl, hb1⟩
  have hz1 := hb1.size
  (try simp at hz1)
  have bb1 : Below w.heap.size w w1 := (by repeat (first | exact Below.refl _ _ | assumption | refine below_drewN ?_ _ | refine Below.setCell ?_ (by first | (simp; done) | (simp; omega)) _ | refine Below.alloc ?_ (by first | (simp; done) | (simp; omega) | omega) _ | refine Below.drew ?_ | refine Below.trans ?_ (Below.mono (by assumption) (by first | (simp; done) | (simp; omega) | omega))))
  have BE1 := Lib.hid (show Below w.heap.size w w1 from bb1)
  have HEV1 := Lib.hid (HEV0.out.below bb1)
  clear hb1 bb1 HEV0
  go_wp2_with fail
  refine (lex_any s _ (HEV1.out.below (by repeat (first | exact Below.refl _ _ | assumption | refine below_drewN ?_ _ | refine Below.setCell ?_ (by first | (simp; done) | (simp; omega)) _ | refine Below.alloc ?_ (by first | (simp; done) | (simp; omega) | omega) _ | refine Below.drew ?_ | refine Below.trans ?_ (Below.mono (by assumption) (by first | (simp; done) | (simp; omega) | omega))))) (by omega)).mono ?_
  rintro e w2 ⟨⟨q2, cap2, rfl, hc2, hm2, ht2⟩, hb2⟩
  rw [HL.out] at hc2 ht2
  simp only [HL.out]
  (try simp only at hc2 ht2)
  have hz2 := hb2.size
  (try simp at hz2)
  have bb2 : Below w1.heap.size w1 w2 := (by repeat (first | exact Below.refl _ _ | assumption | refine below_drewN ?_ _ | refine Below.setCell ?_ (by first | (simp; done) | (simp; omega)) _ | refine Below.alloc ?_ (by first | (simp; done) | (simp; omega) | omega) _ | refine Below.drew ?_ | refine Below.trans ?_ (Below.mono (by assumption) (by first | (simp; done) | (simp; omega) | omega))))
  have BE2 := Lib.hid (show Below w.heap.size w w2 from BE1.out.trans (bb2.mono BE1.out.size))
  have HEV2 := Lib.hid (HEV1.out.below bb2)
  have TA2 := Lib.hid ht2
  clear hb2 bb2 HEV1 BE1
  clear ht2
  go_wp2_with fail
  go_loopw [7, 8] (fun t u wr => ∃ e k n : Nat, t = .int .i64 (e : Int) ∧ u = .int .i64 (k : Int) ∧ k ≤ l.length ∧ e ≤ s.length ∧ Lx.Chain s e (l.drop k) ∧ wr = w2.drewN n) (fun _ u _ => l.length - (intOf u).toNat)
  case atStart => exact ⟨0, 0, 0, rfl, rfl, Nat.zero_le _, Nat.zero_le _, HC.out, rfl⟩
  case round =>
    clear HC
    obtain ⟨e, k, n, rfl, rfl, hk, he, hch, hw⟩ := hrel
    have TAR := Lib.hid (show Toks wr q2 l by rw [hw]; exact TA2.out.drewN n)
    have HW := Lib.hid hw
    clear hw
    rcases Nat.lt_or_ge k l.length with hlt | hlt
    · have hx : l[k]? = some l[k] := List.getElem?_eq_getElem hlt
      have hd : l.drop k = l[k] :: l.drop (k + 1) := List.drop_eq_getElem_cons hlt
      generalize l[k] = t at hx hd
      rw [hd] at hch
      obtain ⟨ch1, ch2, ch3, ch4, ch5, ch6⟩ := hch
      obtain ⟨bk, off, hqq, ⟨x0, x1, x2, x3⟩, _⟩ := TAR.out.at hx
      subst hqq
      obtain ⟨at_, hat⟩ : ∃ a, t.off = a := ⟨_, rfl⟩
      obtain ⟨tx, htx⟩ : ∃ x, t.tx = x := ⟨_, rfl⟩
      rw [hat] at ch1 ch2 ch4 ch5 ch6 x3
      rw [htx] at ch2 ch3 ch4 ch6 x1
      have hpos : 1 ≤ tx.length := by
        cases tx with
        | nil => exact absurd rfl ch3
        | cons => simp
      obtain ⟨n1, hn1⟩ : ∃ n, tx.length = n := ⟨_, rfl⟩
      have htz := text_size tx
      rw [hn1] at ch2 ch4 ch6 hpos htz
      obtain ⟨m, hm⟩ : ∃ m, at_ + n1 = m := ⟨_, rfl⟩
      rw [hm] at ch2 ch6
      obtain ⟨g, hg⟩ : ∃ g, (s.drop e).take (at_ - e) = g := ⟨_, rfl⟩
      have hgl : g.length = at_ - e := by rw [← hg, List.length_take, List.length_drop]; omega
      have hs1 := text_sub s e at_ ch1
      rw [hg] at hs1 ch5
      rw [← hgl] at ch5
      have hs2 := text_cut s at_ n1
      rw [hm, ch4] at hs2
      have HGY := Lib.hid ch5
      have HCH := Lib.hid ch6
      have HGL := Lib.hid (show g.length ≤ 4294967280 by omega)
      have b2 : decide ((k : Int) < (l.length : Int)) = true := by simp; omega
      have c1 : decide ((at_ : Int) < (e : Int)) = false := by simp; omega
      have c2 : (at_ : Int) + (n1 : Int) = (m : Int) := by omega
      have c3 : decide ((s.length : Int) < (m : Int)) = false := by simp; omega
      have c4 : ((n1 : Int) == 0) = false := by simp; omega
      have c5 : (k : Int) < (l.length : Int) := by omega
      have c6 : (0 : Int) ≤ (k : Int) := by omega
      have c7 : IntKind.i64.wrap (m : Int) = (m : Int) := by simp [IntKind.wrap, IntKind.bits, IntKind.signed]; omega
      have c8 : (e : Int) ≤ (at_ : Int) := by omega
      have c9 : (at_ : Int) ≤ (m : Int) := by omega
      have c10 : m ≤ s.length := ch2
      have c11 : at_ ≤ s.length := by omega
      clear hx hd hat htx hn1 hm hg hgl ch3 ch4 ch5 ch6
      go_wp2_with fail
      go_quiet (first | exact gaps_q g _ _ HGL.out HGY.out)
      go_wp2_with fail
      go_roundw
      case rel => exact ⟨m, k + 1, _, rfl, by simp, by omega, by omega, HCH.out, by rw [HW.out]; exact World.drewN_drewN _ _ _⟩
      case measure => simp [intOf]; omega
    · have b2 : decide ((k : Int) < (l.length : Int)) = false := by simp; omega
      rw [List.drop_eq_nil_of_le hlt] at hch
      have hch : Lx.gapN (s.drop e) false = (s.drop e).length := hch
      have hs1 := text_suf s e he
      obtain ⟨g, hg⟩ : ∃ g, s.drop e = g := ⟨_, rfl⟩
      rw [hg] at hch hs1
      have hgl : g.length ≤ 4294967280 := by rw [← hg, List.length_drop]; omega
      have HGY := Lib.hid hch
      have c1 : (e : Int) ≤ (s.length : Int) := by omega
      clear hch hg
      go_wp2_with fail
      refine (gaps_yes g _ hgl HGY.out).mono ?_
      rintro e w' ⟨rfl, rfl⟩
      go_wp2_with fail
      go_ret
      exact ⟨rfl, by rw [HW.out]; exact (by have q := BE2.out; repeat (first | exact q | refine Below.setCell ?_ (by first | (simp; done) | omega | (simp; omega)) _ | refine Below.alloc ?_ (by first | (simp; done) | omega | (simp; omega)) _ | refine below_drewN ?_ _ | refine Below.drew ?_))⟩
theorem texts_law (s : List UInt8) (w : World) (hE : Env w) : Calls Tryd.prog 4 #[.string ⟨s.toArray⟩] w fun e w' => e = .returned (.bool true) ∧ Below w.heap.size w w' := by
  rcases Nat.lt_or_ge 3000 s.length with hl | hl
  · exact texts_long s w hl hE
  · rcases Lx.all_cases (s := s) (by omega) with ⟨l, h1, h2⟩ | ⟨er, k, h0, h1, h2, h3⟩
    · have hc := Lx.lexU_count s 0
      rw [h2] at hc
      exact texts_ok s l w hl h1 (by simp only at hc; omega) (Lx.all_chain h2) hE
    · exact texts_err s er k w hl h1 h0 h3 hE
end Go.Proofs.YtedeodeejpaioaaDoor

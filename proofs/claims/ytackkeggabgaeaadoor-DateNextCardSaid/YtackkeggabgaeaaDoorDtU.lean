/- DateAdd: the law, whatever the calendar. -/
import Derived.Test.YtackkeggabgaeaaDoorDtT
namespace Go.Proofs.YtackkeggabgaeaaDoor
open Go.RowKit

theorem add_fst {W : Nat → Bool} {hs : List Int} (h : Dt.Asc hs) {day : Nat} (hd : day ≤ 73048) {n : Int} :
    Dt.add W hs day n = if Dt.fst W hs (Dt.earl W hs day n) ≤ 73048 then (((Dt.fst W hs (Dt.earl W hs day n) : Nat) : Int), 0) else (0, 2) := by
  unfold Dt.add
  by_cases h1 : n > 73048 - day
  · rw [if_pos h1]
    have e : Dt.earl W hs day n = Dt.cnt W hs (day + 1) + n - 1 := by unfold Dt.earl; rw [if_neg (by omega)]
    have l := (Dt.cnt_le h (W := W) (show day + 1 ≤ 73049 by omega)).2
    obtain ⟨_, _, k3⟩ := Dt.fst_spec h (W := W) (Dt.earl W hs day n)
    rw [if_neg ?_]
    intro hle
    have a := k3 (by omega)
    have b := (Dt.cnt_le h (W := W) (show Dt.fst W hs (Dt.earl W hs day n) + 1 ≤ 73049 by omega)).1
    omega
  · rw [if_neg h1]
theorem add_law (b0 b1 b2 b3 b4 b5 b6 : Bool) (p : Option Addr) (n cap : Nat) (hs : List Int) (day o q : Int) (w : World) (hn : hs.length = n) (o0 : 0 ≤ o) (o1 : o ≤ 65535) (q0 : 0 ≤ q) (q1 : q ≤ 65535) (hE : Env w) (hh : Hols w p hs) :
    Calls Tryd.prog 7 #[.agg #[.bool b0, .bool b1, .bool b2, .bool b3, .bool b4, .bool b5, .bool b6, .slice p n cap], .int .i64 day, .int .u16 o, .int .u16 q] w fun e w' => e = .returned (.bool true) ∧ Below w.heap.size w w' := by
  obtain ⟨FC, FA, FN, FB, hS, hin, c1, a1, n1, b1'⟩ := cal_ex b0 b1 b2 b3 b4 b5 b6 p n cap hs hn
  obtain ⟨m, hm⟩ : ∃ m, o % 301 = m := ⟨_, rfl⟩
  obtain ⟨l, hl⟩ : ∃ l, 1 + q % 300 = l := ⟨_, rfl⟩
  have m0 : 0 ≤ m := by omega
  have m1 : m ≤ 300 := by omega
  have l0 : 1 ≤ l := by omega
  have l1 : l ≤ 300 := by omega
  by_cases hz : (FA day m).2 = 0
  · by_cases hx : VP b0 b1 b2 b3 b4 b5 b6 hs ∧ 0 ≤ day ∧ day ≤ 73048 ∧ 0 ≤ m
    · obtain ⟨hv, h0, h1, _⟩ := hx
      obtain ⟨iC, iA, iN, iB⟩ := hin hv
      have hf : n ≤ 500 := by have := hv.1; omega
      obtain ⟨d, rfl⟩ : ∃ d : Nat, day = d := ⟨day.toNat, by omega⟩
      have fa := iA d (by omega) m m0
      rcases Dt.add_spec hv.2.2 (W := (Dt.wk b0 b1 b2 b3 b4 b5 b6)) (day := d) (by omega) (n := m) m0 with ⟨r, e1, e2, e3, e4, e5⟩ | ⟨e1, _⟩
      · have hg : FA d m = ((r : Int), 0) := by rw [fa, e1]
        have sr := Dt.cnt_step hv.2.2 (W := (Dt.wk b0 b1 b2 b3 b4 b5 b6)) r
        rw [e3, if_pos rfl] at sr
        have ft : FA r l = ((FA r l).1, (FA r l).2) := rfl
        by_cases hm0 : m = 0
        · subst hm0
          have fn := iN d (by omega)
          rw [e1] at fn
          have fb := iB d (by omega)
          cases hb : Dt.busy (Dt.wk b0 b1 b2 b3 b4 b5 b6) hs d
          · rw [hb] at fb
            exact add_e b0 b1 b2 b3 b4 b5 b6 p n cap hs FC FA FN FB d o q l w hE hh hS hm hl o0 o1 q0 q1 l0 l1 r hg hf fb fn
          · rw [hb] at fb
            have er : r = d := by
              rw [← e5]
              unfold Dt.earl
              rw [if_pos rfl]
              exact Dt.fst_unique hv.2.2 (by omega) hb
            subst er
            exact add_d b0 b1 b2 b3 b4 b5 b6 p n cap hs FC FA FN FB r o q l w hE hh hS hm hl o0 o1 q0 q1 l0 l1 r _ _ hg hf ft ft fb fn
        · have hea : Dt.earl (Dt.wk b0 b1 b2 b3 b4 b5 b6) hs d m = Dt.cnt (Dt.wk b0 b1 b2 b3 b4 b5 b6) hs (d + 1) + m - 1 := by unfold Dt.earl; rw [if_neg hm0]
          have hdr : d < r := by
            rcases Nat.lt_or_ge d r with hlt | hge
            · exact hlt
            · have := (Dt.cnt_le hv.2.2 (W := (Dt.wk b0 b1 b2 b3 b4 b5 b6)) (show r + 1 ≤ d + 1 by omega)).1
              omega
          have ft2 : FA d (m + l) = ((FA r l).1, (FA r l).2) := by
            rw [iA d (by omega) (m + l) (by omega), iA r e2 l (by omega), add_fst hv.2.2 (by omega), add_fst hv.2.2 e2]
            have ee : Dt.earl (Dt.wk b0 b1 b2 b3 b4 b5 b6) hs d (m + l) = Dt.earl (Dt.wk b0 b1 b2 b3 b4 b5 b6) hs r l := by
              have u1 : Dt.earl (Dt.wk b0 b1 b2 b3 b4 b5 b6) hs d (m + l) = Dt.cnt (Dt.wk b0 b1 b2 b3 b4 b5 b6) hs (d + 1) + (m + l) - 1 := by unfold Dt.earl; rw [if_neg (by omega)]
              have u2 : Dt.earl (Dt.wk b0 b1 b2 b3 b4 b5 b6) hs r l = Dt.cnt (Dt.wk b0 b1 b2 b3 b4 b5 b6) hs (r + 1) + l - 1 := by unfold Dt.earl; rw [if_neg (by omega)]
              omega
            rw [ee]
          have fk : FC ((d : Int) + 1) r = (m - 1, 0) := by
            rw [show (d : Int) + 1 = ((d + 1 : Nat) : Int) by omega, iC (d + 1) r (by omega) e2, e4, hea, show Dt.cnt (Dt.wk b0 b1 b2 b3 b4 b5 b6) hs (d + 1) + m - 1 - Dt.cnt (Dt.wk b0 b1 b2 b3 b4 b5 b6) hs (d + 1) = m - 1 by omega]
          have fr : FB r = true := by rw [iB r e2, e3]
          exact add_c b0 b1 b2 b3 b4 b5 b6 p n cap hs FC FA FN FB d o q m l w hE hh hS hm hl o0 o1 q0 q1 m0 m1 l0 l1 r _ _ hg hf ft ft2 (by omega) (by omega) (by omega) (decide_eq_false (by omega)) fk fr (by omega)
      · rw [fa, e1] at hz
        exact absurd hz (by decide)
    · rw [a1 day m hx] at hz
      exact absurd hz (by decide)
  · by_cases hf : n ≤ 500
    · exact add_a b0 b1 b2 b3 b4 b5 b6 p n cap hs FC FA FN FB day o q m l w hE hh hS hm hl o0 o1 q0 q1 m0 m1 l0 l1 hz hf
    · exact add_b b0 b1 b2 b3 b4 b5 b6 p n cap hs FC FA FN FB day o q m l w hE hh hS hm hl o0 o1 q0 q1 m0 m1 l0 l1 (by omega)
end Go.Proofs.YtackkeggabgaeaaDoor

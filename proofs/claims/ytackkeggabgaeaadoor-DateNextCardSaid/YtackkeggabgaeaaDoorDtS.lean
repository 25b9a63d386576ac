/- DateCount: the law, whatever the calendar. -/
import Derived.Test.YtackkeggabgaeaaDoorDtR
namespace Go.Proofs.YtackkeggabgaeaaDoor
open Go.RowKit

/-- the first business day from a day on is not before it -/
theorem next_ge {W : Nat → Bool} {hs : List Int} (h : Dt.Asc hs) {d r : Nat} (hb : Dt.busy W hs r = true) (hc : Dt.cnt W hs r = Dt.cnt W hs d) : d ≤ r := by
  rcases Nat.lt_or_ge r d with hl | hl
  · have s := Dt.cnt_step h (W := W) r
    rw [hb, if_pos rfl] at s
    have := (Dt.cnt_le h (W := W) (show r + 1 ≤ d by omega)).1
    omega
  · exact hl
theorem count_law (b0 b1 b2 b3 b4 b5 b6 : Bool) (p : Option Addr) (n cap : Nat) (hs : List Int) (day o q : Int) (w : World) (hn : hs.length = n) (o0 : 0 ≤ o) (o1 : o ≤ 65535) (q0 : 0 ≤ q) (q1 : q ≤ 65535) (hE : Env w) (hh : Hols w p hs) :
    Calls Tryd.prog 8 #[.agg #[.bool b0, .bool b1, .bool b2, .bool b3, .bool b4, .bool b5, .bool b6, .slice p n cap], .int .i64 day, .int .u16 o, .int .u16 q] w fun e w' => e = .returned (.bool true) ∧ Below w.heap.size w w' := by
  obtain ⟨FC, FA, FN, FB, hS, hin, c1, a1, n1, b1'⟩ := cal_ex b0 b1 b2 b3 b4 b5 b6 p n cap hs hn
  obtain ⟨mid, hmid⟩ : ∃ mid, wrap64 (day + o % 500) = mid := ⟨_, rfl⟩
  obtain ⟨en, hen⟩ : ∃ en, wrap64 (mid + q % 500) = en := ⟨_, rfl⟩
  by_cases hx : VP b0 b1 b2 b3 b4 b5 b6 hs ∧ 0 ≤ day ∧ day ≤ 73048 ∧ 0 ≤ en ∧ en ≤ 73048 ∧ day ≤ en
  · obtain ⟨hv, h0, h1, h2, h3, h4⟩ := hx
    obtain ⟨iC, iA, iN, iB⟩ := hin hv
    have hf : n ≤ 500 := by have := hv.1; omega
    have em : mid = day + o % 500 := by rw [← hmid]; exact IntWalk.wrap64_in _ (by omega)
    have ee : en = mid + q % 500 := by rw [← hen]; exact IntWalk.wrap64_in _ (by omega)
    obtain ⟨d, rfl⟩ : ∃ d : Nat, day = d := ⟨day.toNat, by omega⟩
    obtain ⟨M, rfl⟩ : ∃ M : Nat, mid = M := ⟨mid.toNat, by omega⟩
    obtain ⟨E, rfl⟩ : ∃ E : Nat, en = E := ⟨en.toNat, by omega⟩
    have l1 := Dt.cnt_le hv.2.2 (W := (Dt.wk b0 b1 b2 b3 b4 b5 b6)) (show d ≤ M by omega)
    have l2 := Dt.cnt_le hv.2.2 (W := (Dt.wk b0 b1 b2 b3 b4 b5 b6)) (show M ≤ E by omega)
    have f1 := iC d M (by omega) (by omega)
    have f2 := iC M E (by omega) (by omega)
    have f3 : FC d E = ((Dt.cnt (Dt.wk b0 b1 b2 b3 b4 b5 b6) hs M - Dt.cnt (Dt.wk b0 b1 b2 b3 b4 b5 b6) hs d) + (Dt.cnt (Dt.wk b0 b1 b2 b3 b4 b5 b6) hs E - Dt.cnt (Dt.wk b0 b1 b2 b3 b4 b5 b6) hs M), 0) := by
      rw [iC d E (by omega) (by omega)]; congr 1; omega
    have st := Dt.cnt_step hv.2.2 (W := (Dt.wk b0 b1 b2 b3 b4 b5 b6)) d
    have nx : (∃ r : Int, FN d = (r, 0) ∧ FC d r = (0, 0)) ∨ FN d = (0, 2) := by
      rcases Dt.add_spec hv.2.2 (W := (Dt.wk b0 b1 b2 b3 b4 b5 b6)) (day := d) (by omega) (n := 0) (by omega) with ⟨r, e1, e2, e3, e4, _⟩ | ⟨e1, _⟩
      · have e5 : Dt.cnt (Dt.wk b0 b1 b2 b3 b4 b5 b6) hs r = Dt.cnt (Dt.wk b0 b1 b2 b3 b4 b5 b6) hs d := by rw [e4]; unfold Dt.earl; rw [if_pos rfl]
        have e6 := next_ge hv.2.2 e3 e5
        refine .inl ⟨r, by rw [iN d (by omega), e1], ?_⟩
        rw [iC d r e6 e2, e5, Int.sub_self]
      · exact .inr (by rw [iN d (by omega), e1])
    by_cases hd : d ≤ 73047
    · have f4 := iC d (d + 1) (by omega) (by omega)
      rw [st] at f4
      have f5 := iB d (by omega)
      have hq : ((d : Int) == 73048) = false := beq_eq_false_iff_ne.2 (by omega)
      cases hb : Dt.busy (Dt.wk b0 b1 b2 b3 b4 b5 b6) hs d
      · rw [hb, if_neg (by simp)] at f4
        rw [hb] at f5
        have f4' : FC d ((d : Int) + 1) = (0, 0) := by
          rw [show (d : Int) + 1 = ((d + 1 : Nat) : Int) by omega, f4]; congr 1; omega
        rcases nx with ⟨r, x1, x2⟩ | x1
        · exact cnt_e1 b0 b1 b2 b3 b4 b5 b6 p n cap hs FC FA FN FB d o q M E _ _ w hE hh hS hf em.symm ee.symm f1 f2 f3 (by omega) (by omega) (by omega) (by omega) (by omega) o0 o1 q0 q1 r x1 x2 hq f4' f5
        · exact cnt_e0 b0 b1 b2 b3 b4 b5 b6 p n cap hs FC FA FN FB d o q M E _ _ w hE hh hS hf em.symm ee.symm f1 f2 f3 (by omega) (by omega) (by omega) (by omega) (by omega) o0 o1 q0 q1 x1 hq f4' f5
      · rw [hb, if_pos rfl] at f4
        rw [hb] at f5
        have f4' : FC d ((d : Int) + 1) = (1, 0) := by
          rw [show (d : Int) + 1 = ((d + 1 : Nat) : Int) by omega, f4]; congr 1; omega
        rcases nx with ⟨r, x1, x2⟩ | x1
        · exact cnt_d1 b0 b1 b2 b3 b4 b5 b6 p n cap hs FC FA FN FB d o q M E _ _ w hE hh hS hf em.symm ee.symm f1 f2 f3 (by omega) (by omega) (by omega) (by omega) (by omega) o0 o1 q0 q1 r x1 x2 hq f4' f5
        · exact cnt_d0 b0 b1 b2 b3 b4 b5 b6 p n cap hs FC FA FN FB d o q M E _ _ w hE hh hS hf em.symm ee.symm f1 f2 f3 (by omega) (by omega) (by omega) (by omega) (by omega) o0 o1 q0 q1 x1 hq f4' f5
    · rcases nx with ⟨r, x1, x2⟩ | x1
      · exact cnt_c1 b0 b1 b2 b3 b4 b5 b6 p n cap hs FC FA FN FB d o q M E _ _ w hE hh hS hf em.symm ee.symm f1 f2 f3 (by omega) (by omega) (by omega) (by omega) (by omega) o0 o1 q0 q1 r x1 x2 (by omega)
      · exact cnt_c0 b0 b1 b2 b3 b4 b5 b6 p n cap hs FC FA FN FB d o q M E _ _ w hE hh hS hf em.symm ee.symm f1 f2 f3 (by omega) (by omega) (by omega) (by omega) (by omega) o0 o1 q0 q1 x1 (by omega)
  · have hg := c1 day en hx
    by_cases hf : n ≤ 500
    · exact cnt_a b0 b1 b2 b3 b4 b5 b6 p n cap hs FC FA FN FB day o q mid en w hE hh hS hmid hen hg o0 o1 q0 q1 hf
    · exact cnt_b b0 b1 b2 b3 b4 b5 b6 p n cap hs FC FA FN FB day o q mid en w hE hh hS hmid hen hg o0 o1 q0 q1 (by omega)
end Go.Proofs.YtackkeggabgaeaaDoor

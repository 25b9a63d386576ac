/- DateNext: the law, whatever the calendar. -/
import Derived.Test.YtackkeggabgaeaaDoorDtV
import Derived.Test.YtackkeggabgaeaaDoorDtU
namespace Go.Proofs.YtackkeggabgaeaaDoor
open Go.RowKit

theorem next_law (b0 b1 b2 b3 b4 b5 b6 : Bool) (p : Option Addr) (n cap : Nat) (hs : List Int) (day o : Int) (w : World) (hn : hs.length = n) (o0 : 0 ≤ o) (o1 : o ≤ 65535) (hE : Env w) (hh : Hols w p hs) :
    Calls Tryd.prog 6 #[.agg #[.bool b0, .bool b1, .bool b2, .bool b3, .bool b4, .bool b5, .bool b6, .slice p n cap], .int .i64 day, .int .u16 o] w fun e w' => e = .returned (.bool true) ∧ Below w.heap.size w w' := by
  obtain ⟨FC, FA, FN, FB, hS, hin, c1, a1, n1, b1'⟩ := cal_ex b0 b1 b2 b3 b4 b5 b6 p n cap hs hn
  by_cases hf : n ≤ 500
  · by_cases hx : VP b0 b1 b2 b3 b4 b5 b6 hs ∧ 0 ≤ day ∧ day ≤ 73048
    · obtain ⟨hv, h0, h1⟩ := hx
      obtain ⟨iC, iA, iN, iB⟩ := hin hv
      obtain ⟨d, rfl⟩ : ∃ d : Nat, day = d := ⟨day.toNat, by omega⟩
      have fn := iN d (by omega)
      have ea : ∀ x : Nat, Dt.earl (Dt.wk b0 b1 b2 b3 b4 b5 b6) hs x 0 = Dt.cnt (Dt.wk b0 b1 b2 b3 b4 b5 b6) hs x := fun x => by unfold Dt.earl; rw [if_pos rfl]
      rcases Dt.add_spec hv.2.2 (W := (Dt.wk b0 b1 b2 b3 b4 b5 b6)) (day := d) (by omega) (n := 0) (by omega) with ⟨r, e1, e2, e3, e4, e5⟩ | ⟨e1, e2⟩
      · rw [e1] at fn
        rw [ea] at e4 e5
        have hdr := next_ge hv.2.2 e3 e4
        have hr : FB r = true := by rw [iB r e2, e3]
        have hnb : ∀ x : Nat, d ≤ x → x < r → FB x = false := fun x hx1 hx2 => by
          rw [iB x (by omega)]
          exact Dt.idle_of_eq hv.2.2 (a := d) (b := r) (by omega) hx1 hx2
        have hsm : FN r = ((r : Int), 0) := by
          rw [iN r e2, add_fst hv.2.2 e2, ea, e4, e5, if_pos e2]
        by_cases hl : (d : Int) + o % 401 ≤ 73048
        · obtain ⟨L, hL⟩ : ∃ L : Nat, (d : Int) + o % 401 = L := ⟨((d : Int) + o % 401).toNat, by omega⟩
          have hL2 : L ≤ 73048 := by omega
          have fl := iN L hL2
          rw [add_fst hv.2.2 hL2, ea] at fl
          by_cases hq : Dt.fst (Dt.wk b0 b1 b2 b3 b4 b5 b6) hs (Dt.cnt (Dt.wk b0 b1 b2 b3 b4 b5 b6) hs L) ≤ 73048
          · rw [if_pos hq] at fl
            have mo := Dt.fst_mono hv.2.2 (W := (Dt.wk b0 b1 b2 b3 b4 b5 b6)) (Dt.cnt_le hv.2.2 (W := (Dt.wk b0 b1 b2 b3 b4 b5 b6)) (show d ≤ L by omega)).1
            exact nx_e b0 b1 b2 b3 b4 b5 b6 p n cap hs FC FA FN FB d r o L w hE hh hS hf fn hr hnb hsm hdr e2 o0 o1 _ hL fl (by omega)
          · rw [if_neg hq] at fl
            exact nx_d b0 b1 b2 b3 b4 b5 b6 p n cap hs FC FA FN FB d r o L w hE hh hS hf fn hr hnb hsm hdr e2 o0 o1 _ _ hL fl (by decide)
        · exact nx_d b0 b1 b2 b3 b4 b5 b6 p n cap hs FC FA FN FB d r o _ w hE hh hS hf fn hr hnb hsm hdr e2 o0 o1 _ _ rfl (n1 _ (fun h => hl h.2.2)) (by decide)
      · rw [e1] at fn
        rw [ea] at e2
        have hb1 : FB 73048 = false := by
          have := iB 73048 (Nat.le_refl _)
          rw [Dt.idle_of_eq hv.2.2 (a := d) (b := 73049) e2 (by omega) (by omega)] at this
          exact this
        have hb2 : FB d = false := by
          rw [iB d (by omega)]
          exact Dt.idle_of_eq hv.2.2 (a := d) (b := 73049) e2 (Nat.le_refl _) (by omega)
        exact nx_c b0 b1 b2 b3 b4 b5 b6 p n cap hs FC FA FN FB d o w hE hh hS hf fn hb1 hb2
    · exact nx_b b0 b1 b2 b3 b4 b5 b6 p n cap hs FC FA FN FB day o w hE hh hS hf (n1 day hx)
  · exact nx_a b0 b1 b2 b3 b4 b5 b6 p n cap hs FC FA FN FB day o w hE hh hS (by omega)
end Go.Proofs.YtackkeggabgaeaaDoor

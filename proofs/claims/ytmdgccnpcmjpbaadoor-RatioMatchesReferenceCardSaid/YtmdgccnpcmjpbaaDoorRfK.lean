/- The reference implementation: number. -/
import Derived.Test.YtmdgccnpcmjpbaaDoorRfC
import Derived.Test.YtmdgccnpcmjpbaaDoorRfMath3
namespace Go.Proofs.YtmdgccnpcmjpbaaDoor
open Go.RowKit

set_option maxRecDepth 100000 in
set_option maxHeartbeats 3200000 in
theorem number_any (l : List UInt8) (w : World) (hl : l.length ≤ 4294967280) :
    Calls Tryd.prog 34 #[.string ⟨l.toArray⟩] w fun e w' => e = .returned (.int .i64 (Rt.numS l)) ∧ Below w.heap.size w w' := by
  have hs : ((⟨l.toArray⟩ : ByteArray)).size = l.length := by simp [ByteArray.size]
  go_enter Tryd.func34, Tryd.ntmps34
  go_wp2
  go_loopw [3, 4] (fun t u wr => ∃ k : Nat, t = .int .i64 (Rt.val (l.take k) : Int) ∧ u = .int .i64 (k : Int) ∧ k ≤ l.length ∧ (∀ j (h : j < l.length), j < k → Rt.isDig l[j]) ∧ (0 < k → l.length ≤ 13) ∧ Below w.heap.size w wr) (fun _ u _ => l.length - (intOf u).toNat)
  case atStart => exact ⟨0, rfl, rfl, by omega, fun j h hj => absurd hj (by omega), fun h => absurd h (by omega), (by repeat (first | exact Below.refl _ _ | assumption | refine below_drewN ?_ _ | refine Below.setCell ?_ (by first | (simp; done) | (simp; omega)) _ | refine Below.alloc ?_ (by first | (simp; done) | (simp; omega) | omega) _ | refine Below.drew ?_ | refine Below.trans ?_ (Below.mono (by assumption) (by first | (simp; done) | (simp; omega) | omega))))⟩
  case round =>
    obtain ⟨k, rfl, rfl, hk, hd, h13, hw⟩ := hrel
    have HD := Lib.hid hd
    have hz := hw.size
    by_cases hk2 : k < l.length
    · have b1 : decide ((k : Int) < (l.length : Int)) = true := by simp; omega
      have b2 : decide (k < l.length) = true := by simp; omega
      have v0 := Rt.val_lt k hd (by omega)
      obtain ⟨c, hc⟩ : ∃ c, l[k] = c := ⟨_, rfl⟩
      have hc2 : l[k]? = some c := by rw [List.getElem?_eq_getElem hk2, hc]
      have hB : ∀ h : k < ByteArray.size ⟨l.toArray⟩, (⟨l.toArray⟩ : ByteArray)[k]'h = c := fun h => hc
      by_cases hdig : Rt.isDig c
      · by_cases hlen : l.length ≤ 13
        · have p1 : (10 : Nat) ^ k ≤ 10 ^ 12 := Nat.pow_le_pow_right (by omega) (by omega)
          have p2 : (10 : Nat) ^ 12 = 1000000000000 := rfl
          have v1 : Rt.val (l.take k) < 1000000000000 := by omega
          obtain ⟨d1, d2⟩ := hdig
          have b3 : decide ((c.toNat : Int) < 48) = false := by simp; omega
          have b4 : decide (57 < (c.toNat : Int)) = false := by simp; omega
          have b5 : decide (13 < (l.length : Int)) = false := by simp; omega
          have i1 : IntKind.u8.wrap ((c.toNat : Int) - 48) = (c.toNat : Int) - 48 := by simp [IntKind.wrap, IntKind.bits, IntKind.signed]; omega
          have e1 : Rt.val (l.take (k + 1)) = 10 * Rt.val (l.take k) + (c.toNat - 48) := by rw [Rt.val_take hk2, hc]
          have e2 : Rt.isDig l[k] := by rw [hc]; exact ⟨d1, d2⟩
          have E1 := Lib.hid e1
          have E2 := Lib.hid e2
          clear v0 p1 p2 hd e1 e2 hc hc2
          go_wp2
          go_roundw
          case rel =>
            refine ⟨k + 1, ?_, by simp, by omega, fun j h hj => ?_, fun _ => hlen, hw⟩
            · rw [E1.out]; simp; omega
            · by_cases hjk : j = k
              · subst hjk; exact E2.out
              · exact HD.out j h (by omega)
          case measure => simp [intOf]; omega
        · have b3 : decide ((c.toNat : Int) < 48) = false := by simp; have := hdig.1; omega
          have b4 : decide (57 < (c.toNat : Int)) = false := by simp; have := hdig.2; omega
          have b5 : decide (13 < (l.length : Int)) = true := by simp; omega
          have hv : Rt.numS l = 0 := by unfold Rt.numS; rw [if_neg (fun h => hlen h.1)]
          have HV := Lib.hid hv
          clear hv v0 hd hc hc2
          go_wp2
          go_ret
          exact ⟨by first | (rw [HV.out]; done) | (rw [HV.out]; rfl), (by repeat (first | exact Below.refl _ _ | assumption | refine below_drewN ?_ _ | refine Below.setCell ?_ (by first | (simp; done) | (simp; omega)) _ | refine Below.alloc ?_ (by first | (simp; done) | (simp; omega) | omega) _ | refine Below.drew ?_ | refine Below.trans ?_ (Below.mono (by assumption) (by first | (simp; done) | (simp; omega) | omega))))⟩
      · have hv : Rt.numS l = 0 := by unfold Rt.numS; rw [if_neg (fun h => hdig (h.2 c (hc ▸ List.getElem_mem hk2)))]
        have HV := Lib.hid hv
        clear hv
        by_cases hlow : c.toNat < 48
        · have b3 : decide ((c.toNat : Int) < 48) = true := by simp; omega
          clear v0 hd hc hc2
          go_wp2
          go_ret
          exact ⟨by first | (rw [HV.out]; done) | (rw [HV.out]; rfl), (by repeat (first | exact Below.refl _ _ | assumption | refine below_drewN ?_ _ | refine Below.setCell ?_ (by first | (simp; done) | (simp; omega)) _ | refine Below.alloc ?_ (by first | (simp; done) | (simp; omega) | omega) _ | refine Below.drew ?_ | refine Below.trans ?_ (Below.mono (by assumption) (by first | (simp; done) | (simp; omega) | omega))))⟩
        · have b3 : decide ((c.toNat : Int) < 48) = false := by simp; omega
          have b4 : decide (57 < (c.toNat : Int)) = true := by
            simp
            refine Classical.byContradiction fun h => hdig ⟨by omega, by omega⟩
          clear v0 hd hc hc2
          go_wp2
          go_ret
          exact ⟨by first | (rw [HV.out]; done) | (rw [HV.out]; rfl), (by repeat (first | exact Below.refl _ _ | assumption | refine below_drewN ?_ _ | refine Below.setCell ?_ (by first | (simp; done) | (simp; omega)) _ | refine Below.alloc ?_ (by first | (simp; done) | (simp; omega) | omega) _ | refine Below.drew ?_ | refine Below.trans ?_ (Below.mono (by assumption) (by first | (simp; done) | (simp; omega) | omega))))⟩
    · have hkl : k = l.length := by omega
      have b1 : decide ((k : Int) < (l.length : Int)) = false := by simp; omega
      have hall : ∀ c ∈ l, Rt.isDig c := by
        intro c hc
        obtain ⟨j, hj, rfl⟩ := List.mem_iff_getElem.1 hc
        exact hd j hj (by omega)
      have hv : Rt.numS l = (Rt.val (l.take k) : Int) := by
        unfold Rt.numS
        rw [if_pos ⟨by omega, hall⟩, hkl, List.take_length]
      have HV := Lib.hid hv
      clear hv hd hall
      go_wp2
      go_ret
      exact ⟨by rw [HV.out]; rfl, (by repeat (first | exact Below.refl _ _ | assumption | refine below_drewN ?_ _ | refine Below.setCell ?_ (by first | (simp; done) | (simp; omega)) _ | refine Below.alloc ?_ (by first | (simp; done) | (simp; omega) | omega) _ | refine Below.drew ?_ | refine Below.trans ?_ (Below.mono (by assumption) (by first | (simp; done) | (simp; omega) | omega))))⟩
end Go.Proofs.YtmdgccnpcmjpbaaDoor

/- The reference implementation: digits. -/
import Derived.Test.YtmdgccnpcmjpbaaDoorRfC
import Derived.Test.YtmdgccnpcmjpbaaDoorRtF
import Derived.Laws.IdiomStrings
namespace Go.Proofs.YtmdgccnpcmjpbaaDoor
open Go.RowKit

namespace Rt
/-- What is still to be written ahead of the digits so far. -/
def rest (p : Nat) : List UInt8 := if p < 10 then [] else Lib.decDigits (p / 10)
theorem rest_start (p : Nat) : rest p ++ [UInt8.ofNat (48 + p % 10)] = Lib.decDigits p := by
  unfold rest
  by_cases h : p < 10
  · rw [if_pos h, Lib.decDigits_one h, Nat.mod_eq_of_lt h, List.nil_append]
  · rw [if_neg h]
    conv => rhs; rw [Lib.decDigits, dif_neg h]
theorem rest_step {p : Nat} (h : 9 < p) (l : List UInt8) : rest (p / 10) ++ UInt8.ofNat (48 + p / 10 % 10) :: l = rest p ++ l := by
  conv => rhs; unfold rest; rw [if_neg (by omega), ← rest_start, List.append_assoc, List.singleton_append]
theorem rest_end {p : Nat} (h : ¬ 9 < p) (l : List UInt8) : rest p ++ l = l := by
  unfold rest; rw [if_pos (by omega), List.nil_append]
end Rt
theorem conv_one (W : World) (z : Int) (h0 : 0 ≤ z) (h1 : z ≤ 255) :
    (convert 64 9 (.slice (some ⟨W.heap.size, 0, none⟩) 1 1)).run Tryd.prog (W.alloc (.cells #[.int .u8 z] 5)) = .ok (.string ⟨#[UInt8.ofNat z.toNat]⟩) (W.alloc (.cells #[.int .u8 z] 5)) := by
  have k := run_convert_bytes_back (P := Tryd.prog) (W.alloc (.cells #[.int .u8 z] 5)) 64 9 5 ⟨W.heap.size, 0, none⟩ 1 [UInt8.ofNat z.toNat] (by kernel_rfl) (by kernel_rfl) (by kernel_rfl) (fun j hj => by
    have : j = 0 := by simpa using hj
    subst this
    have e2 : ((UInt8.ofNat z.toNat).toNat : Int) = z := by rw [UInt8.toNat_ofNat']; omega
    change (W.alloc _).cell? ⟨W.heap.size, 0, none⟩ = some (.int .u8 ((UInt8.ofNat z.toNat).toNat : Int))
    rw [e2]
    simp [go_sem])
  exact k
theorem bytes_one (c : UInt8) (l : List UInt8) : (⟨#[c]⟩ : ByteArray) ++ ⟨l.toArray⟩ = ⟨(c :: l).toArray⟩ := by
  apply ByteArray.ext
  simp
set_option maxRecDepth 100000 in
set_option maxHeartbeats 1600000 in
theorem digits_any (u : Nat) (w : World) (hu : u ≤ 1000000000000000000) :
    Calls Tryd.prog 46 #[.int .u64 u] w fun e w' => e = .returned (.string ⟨(Lib.decDigits u).toArray⟩) ∧ Below w.heap.size w w' := by
  obtain ⟨D, hD⟩ : ∃ D, Lib.decDigits u = D := ⟨_, rfl⟩
  rw [hD]
  have HD := Lib.hid hD
  clear hD
  have cv := fun W => conv_one W (48 + (u : Int) % 10) (by omega) (by omega)
  go_enter Tryd.func46, Tryd.ntmps46
  go_wp2
  go_loopw [0, 3] (fun t v wr => ∃ (p : Nat) (l : List UInt8), t = .int .u64 p ∧ v = .string ⟨l.toArray⟩ ∧ p ≤ 1000000000000000000 ∧ l.length + p ≤ u + 1 ∧ Rt.rest p ++ l = D ∧ Below w.heap.size w wr) (fun t _ _ => (intOf t).toNat)
  case atStart => exact ⟨u, [UInt8.ofNat (48 + u % 10)], rfl, by simp, hu, by simp; omega, by rw [Rt.rest_start]; exact HD.out, (by repeat (first | exact Below.refl _ _ | assumption | refine below_drewN ?_ _ | refine Below.setCell ?_ (by first | (simp; done) | (simp; omega)) _ | refine Below.alloc ?_ (by first | (simp; done) | (simp; omega) | omega) _ | refine Below.drew ?_ | refine Below.trans ?_ (Below.mono (by assumption) (by first | (simp; done) | (simp; omega) | omega))))⟩
  case round =>
    obtain ⟨p, l, rfl, rfl, hp, hn, hl, hw⟩ := hrel
    have HL := Lib.hid hl
    clear hl
    have hs : ((⟨l.toArray⟩ : ByteArray)).size = l.length := by simp [ByteArray.size]
    have hz := hw.size
    have hs2 : l.length ≤ 1000000000000000001 := by omega
    by_cases h9 : 9 < p
    · have h10 : p / 10 < p := by omega
      have hb : decide (9 < (p : Int)) = true := by simp; omega
      have hb2 : decide (9 < p) = true := by simp; omega
      have hb3 : 9 < (p : Int) := by omega
      have cv := fun W => conv_one W (48 + (p : Int) / 10 % 10) (by omega) (by omega)
      go_wp2
      go_roundw
      case rel => exact ⟨p / 10, UInt8.ofNat (48 + p / 10 % 10) :: l, by simp, by simp [bytes_one], by omega, by simp; omega, by rw [Rt.rest_step h9]; exact HL.out, (by repeat (first | exact Below.refl _ _ | assumption | refine below_drewN ?_ _ | refine Below.setCell ?_ (by first | (simp; done) | (simp; omega)) _ | refine Below.alloc ?_ (by first | (simp; done) | (simp; omega) | omega) _ | refine Below.drew ?_ | refine Below.trans ?_ (Below.mono (by assumption) (by first | (simp; done) | (simp; omega) | omega))))⟩
      case measure => simp [intOf]; omega
    · have hb : decide (9 < (p : Int)) = false := by simp; omega
      have hb2 : decide (9 < p) = false := by simp; omega
      have hl2 : l = D := by rw [← HL.out, Rt.rest_end h9]
      have HL2 := Lib.hid hl2
      clear hl2 HL h9
      go_wp2
      go_ret
      exact ⟨by rw [← HL2.out]; rfl, (by repeat (first | exact Below.refl _ _ | assumption | refine below_drewN ?_ _ | refine Below.setCell ?_ (by first | (simp; done) | (simp; omega)) _ | refine Below.alloc ?_ (by first | (simp; done) | (simp; omega) | omega) _ | refine Below.drew ?_ | refine Below.trans ?_ (Below.mono (by assumption) (by first | (simp; done) | (simp; omega) | omega))))⟩
/-- ref.Text -/
theorem bytes_neg (l : List UInt8) : (⟨#[45]⟩ : ByteArray) ++ ⟨l.toArray⟩ = ⟨(45 :: l).toArray⟩ := bytes_one 45 l
end Go.Proofs.YtmdgccnpcmjpbaaDoor

/- slices.Repeat: the walk. -/
import Derived.Test.YtpdknjbhnelidaaQtI
import Derived.Deep.RegionLaw
namespace Go.Proofs.Ytpdknjbhnelidaa
open Go.RowKit

set_option maxRecDepth 100000 in
set_option maxHeartbeats 3200000 in
theorem repeat_calls (b cap n : Nat) (w : World) (hn : n ≤ 20) (c0 : w.cell? ⟨b, 0, none⟩ = some (.int .i64 0)) (c1 : w.cell? ⟨b, 1, none⟩ = some (.int .i64 1)) :
    Calls Try.prog 48 #[.slice (some ⟨b, 0, none⟩) 1 cap, .int .i64 n] w fun e w' => ∃ g, e = .returned (.slice (some ⟨g, 0, none⟩) n n) ∧ w.heap.size ≤ g ∧ w'.heap[g]? = some (.cells (ones n).toArray 31 (0, 0)) ∧ Below w.heap.size w w' := by
  obtain ⟨i, hi, hz0, hz1, hz2⟩ := info_parts info_ratio
  go_enter Try.func48, Try.ntmps48
  go_wp2_with fail
  refine (mul_small n hn _).mono ?_
  rintro e w' ⟨rfl, rfl⟩
  go_wp2_with (at_make; go_loud (refine wpList_make_full _ rfl (.tmp 29) (.tmp 29) 24 rfl w.heap.size 31 i _ 2 Try.underlying24 hi hz0 hz1 .i64 .i64 n n n rfl rfl rfl rfl (by rw [hz2]; omega) (by have : n ≤ 20 := hn; simp [maxLen]; omega) (Nat.le_refl _) ?_))
  intro w1 hown hgrow
  have hb1 : Below w.heap.size w w1 := (Below.refl _ _).grown hgrow (Nat.le_refl _) (fun _ h => by cases h)
  have row1 := made_row hn hown
  have k0 := cell_keep hb1 c0
  have k1 := cell_keep hb1 c1
  have HB1 := Lib.hid hb1
  have HR1 := Lib.hid row1
  clear hown hgrow c0 c1 hb1 row1
  obtain ⟨m, hm⟩ : ∃ m, m = Nat.min 1 n := ⟨_, rfl⟩
  have HM := Lib.hid hm
  have hm1 : m ≤ 1 := by rw [hm]; exact Nat.min_le_left _ _
  have hm2 : m ≤ n := by rw [hm]; exact Nat.min_le_right _ _
  clear hm
  go_wp2_with ((refine wpList_copy_two rfl (.tmp 31) (.tmp 32) 24 24 rfl 31 Try.underlying24 size_ratio w.heap.size 0 n n ⟨b, 0, none⟩ 1 cap rfl rfl (nulls n) 31 HR1.out (ones m) m HM.out (len_ones m) (src_one hm1 k0 k1) (by rw [len_ones, len_nulls]; omega) (ones_cell m) w.heap.size w HB1.out (Nat.le_refl _) ?_))
  intro w2 HG2 hb2
  have hr2 : w2.heap[w.heap.size]? = some (.cells (ones m ++ nulls (n - m)).toArray 31 (0, 0)) := by
    have q := HG2.out
    rw [HM.out, splice_first, ← HM.out] at q
    exact q
  have hm3 : 0 < n → 1 ≤ m := fun h => by rw [HM.out]; exact Nat.le_min.2 ⟨Nat.le_refl _, h⟩
  have HR2 := Lib.hid hr2
  have HB2 := Lib.hid hb2
  have HM3 := Lib.hid hm3
  clear HG2 HB1 HR1 HM k0 k1 hr2 hb2 hm3
  go_wp2_with fail
  go_loopw [8] (fun a wr => ∃ c : Nat, a = .int .i64 c ∧ c ≤ n ∧ (0 < n → 1 ≤ c) ∧ wr.heap[w.heap.size]? = some (.cells (ones c ++ nulls (n - c)).toArray 31 (0, 0)) ∧ Below w.heap.size w wr) (fun a _ => n - (intOf a).toNat)
  case atStart => exact ⟨m, rfl, hm2, HM3.out, HR2.out, HB2.out⟩
  case round =>
    obtain ⟨c, rfl, hc, hc1, hrow, hbe⟩ := hrel
    have HROW := Lib.hid hrow
    have HBE := Lib.hid hbe
    have HROWD := Lib.hid (show wr.drew.heap[w.heap.size]? = some (.cells (ones c ++ nulls (n - c)).toArray 31 (0, 0)) from hrow)
    have HBED := Lib.hid (show Below w.heap.size w wr.drew from Below.drew hbe)
    clear hrow hbe
    by_cases hlt : c < n
    · have h1c : 1 ≤ c := hc1 (by omega)
      clear hc1
      obtain ⟨k, hk⟩ : ∃ k, k = Nat.min c (n - c) := ⟨_, rfl⟩
      have hk1 : k ≤ c := by rw [hk]; exact Nat.min_le_left _ _
      have hk2 : k ≤ n - c := by rw [hk]; exact Nat.min_le_right _ _
      have hk3 : 1 ≤ k := by rw [hk]; exact Nat.le_min.2 ⟨h1c, by omega⟩
      have HK := Lib.hid hk
      clear hk
      have hne : ¬ n = c := by omega
      have hne2 : ¬ n - c = 0 := by omega
      have hwr : IntKind.i64.wrap ((c : Int) + (k : Int)) = ((c + k : Nat) : Int) := by rw [IntWalk.i64_in _ (by omega)]; push_cast; rfl
      go_wp2_with fail
      go_region_law ((refine step_copy_two rfl (.tmp 41) (.tmp 44) 24 24 rfl 31 Try.underlying24 size_ratio w.heap.size (c * 2) (n - c) (n - c) ⟨w.heap.size, 0, none⟩ c n (by go_simp) (by go_simp) (ones c ++ nulls (n - c)) 31 HROWD.out (ones k) k HK.out (len_ones k) (src_more hk1 HROWD.out) (by rw [List.length_append, len_ones, len_ones, len_nulls]; omega) (ones_cell k) w.heap.size w HBED.out (Nat.le_refl _) ?_; intro w4 hg4 hb4))
      have HG4 := Lib.hid hg4
      have HB4 := Lib.hid hb4
      clear hg4 hb4 hne hne2
      clear hwr
      simp [go_sem, Act.put]
      go_wp2_with fail
      go_roundw
      case rel =>
        refine ⟨c + k, rfl, by omega, by omega, ?_, HB4.out⟩
        have q := HG4.out.out
        rw [show n - c = k + (n - (c + k)) by omega, splice_ones] at q
        exact q
      case measure =>
        simp only [intOf]
        omega
    · obtain rfl : n = c := by omega
      go_wp2_with fail
      go_ret
      refine ⟨w.heap.size, rfl, Nat.le_refl _, ?_, HBE.out⟩
      have q := HROW.out
      rwa [Nat.sub_self, show nulls 0 = [] from rfl, List.append_nil] at q
end Go.Proofs.Ytpdknjbhnelidaa

/- The reference implementation: Div and Mul. -/
import Derived.Test.YtmdgccnpcmjpbaaDoorRfC
import Derived.Test.YtmdgccnpcmjpbaaDoorRtK
import Derived.Test.YtmdgccnpcmjpbaaDoorRfMath2
import Derived.Test.YtmdgccnpcmjpbaaDoorRfStill
namespace Go.Proofs.YtmdgccnpcmjpbaaDoor
open Go.RowKit

theorem size_x (n : Int) (x : Nat) (w : World) (hx : n.natAbs = x) (h1 : -9223372036854775808 ≤ n) (h2 : n ≤ 9223372036854775807) :
    Calls Tryd.prog 31 #[.int .i64 n] w fun e w' => e = .returned (.int .u64 (x : Int)) ∧ w = w' := by
  rw [← hx]; exact size_any n w h1 h2
theorem u64_id (n : Int) (h1 : 0 ≤ n) (h2 : n ≤ 18446744073709551615) : IntKind.u64.wrap n = n := by
  simp [IntKind.wrap, IntKind.bits, IntKind.signed]; omega
theorem size_s (n : Int) (w : World) (h1 : -9223372036854775808 ≤ n) (h2 : n ≤ 9223372036854775807) :
    Calls Tryd.prog 31 #[.int .i64 n] w fun e w' => e = .returned (.int .u64 (n.natAbs : Int)) ∧ w' = w :=
  (size_any n w h1 h2).mono fun _ _ ⟨he, hw⟩ => ⟨he, hw.symm⟩
theorem of_int (s : Bool) (X Y : Int) (t : Int × Int × Int) (w : World) (hX : 0 ≤ X) (hX2 : X ≤ 18446744073709551615) (hY : 0 ≤ Y) (hY2 : Y ≤ 18446744073709551615) (ht : Rt.ofS s X.toNat Y.toNat = t) :
    Calls Tryd.prog 30 #[.bool s, .int .u64 X, .int .u64 Y] w fun e w' => e = .returned (RV t) ∧ Below w.heap.size w w' := by
  have k := of_ref s X.toNat Y.toNat w (by omega) (by omega)
  rw [ht, Int.toNat_of_nonneg hX, Int.toNat_of_nonneg hY] at k
  exact k
theorem nat_mulb {a b : Nat} {m k : Nat} (h1 : a ≤ m) (h2 : b ≤ k) : 0 ≤ (a : Int) * (b : Int) ∧ (a : Int) * (b : Int) ≤ ((m * k : Nat) : Int) := by
  rw [← Int.natCast_mul]
  exact ⟨Int.natCast_nonneg _, Int.ofNat_le.2 (Nat.mul_le_mul h1 h2)⟩
set_option maxRecDepth 100000 in
set_option maxHeartbeats 3200000 in
theorem rdiv_ok (an ad bn bd : Int) (t : Int × Int × Int) (w : World) (ht : Rt.mk (an * bd) (ad * bn) = t) (ha : Rt.Ok an ad) (hb : Rt.Ok bn bd) :
    Calls Tryd.prog 18 #[.agg #[.int .i64 an, .int .i64 ad], .agg #[.int .i64 bn, .int .i64 bd]] w fun e w' => e = .returned (RV t) ∧ Below w.heap.size w w' := by
  have ht2 : Rt.ofS (!(decide (an < 0) == decide (bn < 0))) ((an.natAbs : Int) * (bd.natAbs : Int)).toNat ((ad.natAbs : Int) * (bn.natAbs : Int)).toNat = t := by
    rw [← Int.natCast_mul, ← Int.natCast_mul, Int.toNat_natCast, Int.toNat_natCast, ← ht]
    exact Rt.div_of ha hb
  have HT := Lib.hid ht2
  clear ht ht2
  have HA := Lib.hid ha
  have HB := Lib.hid hb
  obtain ⟨a1, a2, a3, a4, _⟩ := ha
  obtain ⟨d1, d2, d3, d4, _⟩ := hb
  have p1 := nat_mulb (a := an.natAbs) (b := bd.natAbs) (m := 1000000000000) (k := 1000000) (by omega) (by omega)
  have p2 := nat_mulb (a := ad.natAbs) (b := bn.natAbs) (m := 1000000) (k := 1000000000000) (by omega) (by omega)
  simp only [Nat.reduceMul, Int.cast_ofNat_Int] at p1 p2
  have nan1 : -9223372036854775808 ≤ an := by omega
  have nan2 : an ≤ 9223372036854775807 := by omega
  have nad1 : -9223372036854775808 ≤ ad := by omega
  have nad2 : ad ≤ 9223372036854775807 := by omega
  have nbn1 : -9223372036854775808 ≤ bn := by omega
  have nbn2 : bn ≤ 9223372036854775807 := by omega
  have nbd1 : -9223372036854775808 ≤ bd := by omega
  have nbd2 : bd ≤ 9223372036854775807 := by omega
  have zo : ∀ w, Calls Tryd.prog 30 #[.bool (!(decide (an < 0) == decide (bn < 0))), .int .u64 ((an.natAbs : Int) * (bd.natAbs : Int)), .int .u64 ((ad.natAbs : Int) * (bn.natAbs : Int))] w fun e w' => e = .returned (RV t) ∧ Below w.heap.size w w' := fun w => of_int _ _ _ t w (by omega) (by omega) (by omega) (by omega) HT.out
  have q1 : IntKind.u64.wrap ((an.natAbs : Int) * (bd.natAbs : Int)) = (an.natAbs : Int) * (bd.natAbs : Int) := u64_id _ (by omega) (by omega)
  have q2 : IntKind.u64.wrap ((ad.natAbs : Int) * (bn.natAbs : Int)) = (ad.natAbs : Int) * (bn.natAbs : Int) := u64_id _ (by omega) (by omega)
  clear p1 p2 HT a1 a2 a3 a4 d1 d2 d3 d4
  go_enter Tryd.func18, Tryd.ntmps18
  go_wp2_with fail
  refine (rvalid_true _ _ _ HA.out).mono ?_
  rintro e w1 ⟨rfl, hb1⟩
  obtain ⟨hc1, hf1⟩ := bcell hb1
  have hz1 := hb1.size
  simp at hz1
  have g1 : w1.cell? ⟨w.heap.size, 0, none⟩ = some (.int .i64 an) := (hc1 _ _ (by simp; omega)).trans (by go_simp)
  have g2 : w1.cell? ⟨w.heap.size, 1, none⟩ = some (.int .i64 ad) := (hc1 _ _ (by simp; omega)).trans (by go_simp)
  have g3 : w1.cell? ⟨w.heap.size + 1, 0, none⟩ = some (.int .i64 bn) := (hc1 _ _ (by simp)).trans (by go_simp)
  have g4 : w1.cell? ⟨w.heap.size + 1, 1, none⟩ = some (.int .i64 bd) := (hc1 _ _ (by simp)).trans (by go_simp)
  have g5 : w1.cell? ⟨w.heap.size + 1 + 1, 0, none⟩ = some (.int .i64 0) := (hc1 _ _ (by simp)).trans (by go_simp)
  have g6 : w1.cell? ⟨w.heap.size + 1 + 1, 1, none⟩ = some (.int .i64 0) := (hc1 _ _ (by simp)).trans (by go_simp)
  have k5 : w1.frozen? ⟨w.heap.size + 1 + 1, 0, none⟩ = false := (hf1 _ _ (by simp)).trans (by go_simp)
  have k6 : w1.frozen? ⟨w.heap.size + 1 + 1, 1, none⟩ = false := (hf1 _ _ (by simp)).trans (by go_simp)
  have bf1 : Below w.heap.size w w1 := (by repeat (first | exact Below.refl _ _ | assumption | refine below_drewN ?_ _ | refine Below.setCell ?_ (by first | (simp; done) | (simp; omega)) _ | refine Below.alloc ?_ (by first | (simp; done) | (simp; omega) | omega) _ | refine Below.drew ?_ | refine Below.trans ?_ (Below.mono (by assumption) (by first | (simp; done) | (simp; omega) | omega))))
  have hl0 : w.heap.size + 1 + 1 < w1.heap.size := by omega
  clear hc1 hf1 hb1
  go_wp2_with fail
  refine (rvalid_true _ _ _ HB.out).mono ?_
  rintro e w2 ⟨rfl, hb2⟩
  have hz2 := hb2.size
  have c1 := cell_keep hb2 g1
  have c2 := cell_keep hb2 g2
  have c3 := cell_keep hb2 g3
  have c4 := cell_keep hb2 g4
  have hl1 : w.heap.size < w2.heap.size := by omega
  have hl2 : w.heap.size + 1 < w2.heap.size := by omega
  have c5 := cell_keep hb2 g5
  have c6 := cell_keep hb2 g6
  have f5 : w2.frozen? ⟨w.heap.size + 1 + 1, 0, none⟩ = false := (hb2.frozen (p := ⟨w.heap.size + 1 + 1, 0, none⟩) hl0).trans k5
  have f6 : w2.frozen? ⟨w.heap.size + 1 + 1, 1, none⟩ = false := (hb2.frozen (p := ⟨w.heap.size + 1 + 1, 1, none⟩) hl0).trans k6
  have hl3 : w.heap.size + 1 + 1 < w2.heap.size := by omega
  clear g1 g2 g3 g4 g5 g6 k5 k6 hl0 HA HB
  go_wp2_with fail
  refine region_head 21 #[true, true, true, true, true, true, true, true, true, true, true, true, true, true, true, true, true, true, true, true, true, false, false, false, false, false] (by kernel_rfl) (by kernel_rfl) (by kernel_rfl) (by kernel_rfl) (by kernel_rfl) (by kernel_rfl) (by kernel_rfl) ?_
  simp only [List.take_succ_cons, List.take_zero]
  repeat (first | still_step | still_call (size_s _ _ (by assumption) (by assumption)))
  refine wpStill_nil ?_
  refine wpAny_ready (rs := [21]) (by kernel_rfl) (by simp) ?_
  refine AllReady.cons rfl (fun K hK => ?_) AllReady.nil
  go_simp
  go_wp2_with fail
  refine (zo _).mono ?_
  rintro e w3 ⟨rfl, hb3'⟩
  have hb3 : Below w2.heap.size w2 w3 := (by repeat (first | exact Below.refl _ _ | assumption | refine below_drewN ?_ _ | refine Below.setCell ?_ (by first | (simp; done) | (simp; omega)) _ | refine Below.alloc ?_ (by first | (simp; done) | (simp; omega) | omega) _ | refine Below.drew ?_ | refine Below.trans ?_ (Below.mono (by assumption) (by first | (simp; done) | (simp; omega) | omega))))
  clear hb3'
  obtain ⟨hc3, hf3⟩ := bcell hb3
  have e5 := (hc3 _ 0 hl3).trans c5
  have e6 := (hc3 _ 1 hl3).trans c6
  have j5 := (hf3 _ 0 hl3).trans f5
  have j6 := (hf3 _ 1 hl3).trans f6
  have hl4 : w.heap.size + 1 + 1 < w3.heap.size := by have := hb3.size; omega
  simp only [RV]
  go_simp
  refine hK _ _ ?_
  clear hK K
  refine wpAny_take (i := 22) (v := ?_) rfl (by kernel_rfl) (by kernel_rfl) (by kernel_rfl) (fun _ _ _ h => h) (Or.inl ⟨by rfl, ?hy22⟩) ?hr22
  case hy22 => intro w; go_simp; with_reducible rfl
  refine wpAny_take (i := 23) (v := ?_) rfl (by kernel_rfl) (by kernel_rfl) (by kernel_rfl) (fun _ _ _ h => h) (Or.inl ⟨by rfl, ?hy23⟩) ?hr23
  case hy23 => intro w; go_simp; with_reducible rfl
  refine wpAny_ready (rs := [24]) (by kernel_rfl) (by simp) ?_
  refine AllReady.cons rfl (fun K hK => ?_) AllReady.nil
  go_simp
  refine hK _ _ ?_
  clear hK K
  refine wpAny_ready (rs := [25]) (by kernel_rfl) (by simp) ?_
  refine AllReady.cons rfl (fun K hK => ?_) AllReady.nil
  go_simp
  refine hK _ _ ?_
  clear hK K
  refine wpAny_done (by kernel_rfl) ?_ _
  go_wp2
  refine bodyPost_ret (v := RV t) (by simp [results, Tryd.results18, go_sem, RV, e5, e6]) rfl ⟨rfl, ?_⟩
  exact (by repeat (first | exact Below.refl _ _ | assumption | refine below_drewN ?_ _ | refine Below.setCell ?_ (by first | (simp; done) | (simp; omega)) _ | refine Below.alloc ?_ (by first | (simp; done) | (simp; omega) | omega) _ | refine Below.drew ?_ | refine Below.trans ?_ (Below.mono (by assumption) (by first | (simp; done) | (simp; omega) | omega))))
set_option maxRecDepth 100000 in
set_option maxHeartbeats 1600000 in
theorem rdiv_no (an ad bn bd : Int) (w : World) (h : ¬ (Rt.Ok an ad ∧ Rt.Ok bn bd)) :
    Calls Tryd.prog 18 #[.agg #[.int .i64 an, .int .i64 ad], .agg #[.int .i64 bn, .int .i64 bd]] w fun e w' => e = .returned (RV (0, 0, 1)) ∧ Below w.heap.size w w' := by
  by_cases ha : Rt.Ok an ad
  · have hb : ¬ Rt.Ok bn bd := fun hb => h ⟨ha, hb⟩
    have HA := Lib.hid ha
    have HB := Lib.hid hb
    clear h ha hb
    go_enter Tryd.func18, Tryd.ntmps18
    go_wp2_with fail
    refine (rvalid_true _ _ _ HA.out).mono ?_
    rintro e w1 ⟨rfl, hb1⟩
    obtain ⟨hc1, hf1⟩ := bcell hb1
    have hz1 := hb1.size
    simp at hz1
    go_wp2_with fail
    refine (rvalid_false _ _ _ HB.out).mono ?_
    rintro e w2 ⟨rfl, hb2⟩
    have hz2 := hb2.size
    obtain ⟨hc2, hf2⟩ := bcell hb2
    have hl1 : w.heap.size + 1 + 1 < w1.heap.size := by omega
    go_wp2
    refine bodyPost_ret (v := RV (0, 0, 1)) (by simp [results, Tryd.results18, go_sem, RV, hc1, hc2, hl1]) rfl ⟨rfl, ?_⟩
    exact (by repeat (first | exact Below.refl _ _ | assumption | refine below_drewN ?_ _ | refine Below.setCell ?_ (by first | (simp; done) | (simp; omega)) _ | refine Below.alloc ?_ (by first | (simp; done) | (simp; omega) | omega) _ | refine Below.drew ?_ | refine Below.trans ?_ (Below.mono (by assumption) (by first | (simp; done) | (simp; omega) | omega))))
  · have HA := Lib.hid ha
    clear h ha
    go_enter Tryd.func18, Tryd.ntmps18
    go_wp2_with fail
    refine (rvalid_false _ _ _ HA.out).mono ?_
    rintro e w1 ⟨rfl, hb1⟩
    obtain ⟨hc1, hf1⟩ := bcell hb1
    have hz1 := hb1.size
    simp at hz1
    go_wp2
    refine bodyPost_ret (v := RV (0, 0, 1)) (by simp [results, Tryd.results18, go_sem, RV, hc1]) rfl ⟨rfl, ?_⟩
    exact (by repeat (first | exact Below.refl _ _ | assumption | refine below_drewN ?_ _ | refine Below.setCell ?_ (by first | (simp; done) | (simp; omega)) _ | refine Below.alloc ?_ (by first | (simp; done) | (simp; omega) | omega) _ | refine Below.drew ?_ | refine Below.trans ?_ (Below.mono (by assumption) (by first | (simp; done) | (simp; omega) | omega))))
theorem rdiv_any (an ad bn bd : Int) (w : World) :
    Calls Tryd.prog 18 #[.agg #[.int .i64 an, .int .i64 ad], .agg #[.int .i64 bn, .int .i64 bd]] w fun e w' => e = .returned (RV (Rt.divS an ad bn bd)) ∧ Below w.heap.size w w' := by
  unfold Rt.divS
  by_cases h : Rt.Ok an ad ∧ Rt.Ok bn bd
  · rw [if_pos h]; exact rdiv_ok an ad bn bd _ w rfl h.1 h.2
  · rw [if_neg h]; exact rdiv_no an ad bn bd w h
end Go.Proofs.YtmdgccnpcmjpbaaDoor

/- number and token. -/
import Derived.Test.YtedeodeejpaioaaDoorLxC
import Derived.Test.YtedeodeejpaioaaDoorLxMath6
namespace Go.Proofs.YtedeodeejpaioaaDoor
open Go.RowKit

/-- the fact on package-level variables that the calls need -/
def Env (w : World) : Prop := ∃ tp p, w.var? Tryd.prog "strconv.ErrRange" = some #[.iface tp p]
theorem g_ran : Tryd.prog.globalNamed "strconv.ErrRange" = some 2 := by kernel_rfl
theorem Env.below {w w' : World} (h : Env w) (hb : Below w.heap.size w w') : Env w' := by
  obtain ⟨tq, q, h4⟩ := h
  exact ⟨tq, q, Joins.var_stays g_ran h4 hb (Nat.le_refl _)⟩
theorem atoi_ok (l : List UInt8) (v : Int) (w : World) (hl : l.length ≤ 4294967280) (h : Lib.atoiAll l = .ok v) :
    Calls Tryd.prog 40 #[.string ⟨l.toArray⟩] w fun e w' => e = .returned (.tuple #[.int .i64 v, .nilIface]) ∧ Below w.heap.size w w' := by
  have hs := text_size l
  refine (Tryd.strconv_Atoi_ok ⟨l.toArray⟩ (by omega) v (by simpa using h) w).mono ?_
  rintro e w' ⟨he, rfl | ⟨t, rfl⟩⟩
  · exact ⟨he, Below.refl _ _⟩
  · exact ⟨he, Lib.bytesWorld_below _ _ _⟩
theorem atoi_far (l : List UInt8) (w : World) (hl : l.length ≤ 4294967280) (hE : Env w) (h : Lib.atoiAll l = .range) :
    Calls Tryd.prog 40 #[.string ⟨l.toArray⟩] w fun e w' => (∃ (v : Int) (N : Nat), e = .returned (.tuple #[.int .i64 v, .iface 64 (.pointer (some ⟨N, 0, none⟩))])) ∧ Below w.heap.size w w' := by
  have hs := text_size l
  obtain ⟨tq, q, h4⟩ := hE
  refine (Tryd.strconv_Atoi_range_var ⟨l.toArray⟩ (by omega) (by simpa using h) tq q w h4).mono ?_
  rintro e w' ⟨N, he, _, _, hb⟩
  exact ⟨⟨_, N, he⟩, hb⟩
theorem index_any (c : UInt8) (w : World) : Calls Tryd.prog 35 #[.string ⟨#[59, 58, 44, 61, 47, 45, 40, 41, 123, 125]⟩, .int .u8 (c.toNat : Int)] w fun e w' => e = .returned (.int .i64 (Lib.indexByte Lx.symL c)) ∧ w = w' := by
  refine (Tryd.strings_IndexByte ⟨#[59, 58, 44, 61, 47, 45, 40, 41, 123, 125]⟩ (c.toNat : Int) w).mono ?_
  rintro e w' ⟨he, rfl⟩
  refine ⟨?_, rfl⟩
  rw [he]
  have : ((c.toNat : Int)).toNat.toUInt8 = c := by simp
  rw [this]
  rfl
theorem inName_sum (s : List UInt8) (k m : Nat) (w : World) :
    Calls Tryd.prog 38 #[.string ⟨s.toArray⟩, .int .i64 ((k : Int) + (m : Int))] w fun e w' => e = .returned (.bool (inS s (k + m))) ∧ w = w' := by
  have h := inName_any s (k + m) w
  rwa [Int.natCast_add] at h
theorem TV_eq {kd kd' : Int} {t t' : List UInt8} {n n' a a' : Int} (h1 : kd = kd') (h2 : t = t') (h3 : n = n') (h4 : a = a') : TV kd t n a = TV kd' t' n' a' := by subst h1 h2 h3 h4; rfl
set_option maxRecDepth 100000 in
set_option maxHeartbeats 3200000 in
theorem number_ok (s : List UInt8) (k : Nat) (w : World) (hl : s.length ≤ 4294967280) (hk : k < s.length) (h : Lx.numN (s.drop k) ≤ 12) (h1 : 1 ≤ Lx.numN (s.drop k)) (ha : Lx.hd Lx.after ((s.drop k).drop (Lx.numN (s.drop k))) = false) :
    Calls Tryd.prog 34 #[.string ⟨s.toArray⟩, .int .i64 (k : Int)] w fun e w' => e = .returned (TV 2 ((s.drop k).take (Lx.numN (s.drop k))) (Lx.valN ((s.drop k).take (Lx.numN (s.drop k)))) k) ∧ Below w.heap.size w w' := by
  have hs := text_size s
  have hle := Lx.numN_le (s.drop k)
  rw [List.length_drop] at hle
  have hdg := Lx.num_digits (s.drop k)
  have hin : inS s (k + Lx.numN (s.drop k)) = Lx.hd Lx.after ((s.drop k).drop (Lx.numN (s.drop k))) := by
    rw [← Lx.num_after, List.drop_drop]
    rfl
  obtain ⟨m, hm⟩ : ∃ m, Lx.numN (s.drop k) = m := ⟨_, rfl⟩
  rw [hm] at hle h hdg hin h1 ha ⊢
  have HM := Lib.hid hm
  have ht := text_cut s k m
  have hlt : ((s.drop k).take m).length = m := by rw [List.length_take, List.length_drop]; omega
  obtain ⟨tx, htx⟩ : ∃ tx, (s.drop k).take m = tx := ⟨_, rfl⟩
  rw [htx] at ht hlt hdg ⊢
  have HDG := Lib.hid hdg
  have HIN := Lib.hid hin
  clear hm hin hdg
  have e1 : (k : Int) + (m : Int) - (k : Int) = (m : Int) := by omega
  have e2 : ((k : Int) + (m : Int)).toNat = k + m := by omega
  have HA := Lib.hid ha
  have b1 : decide (12 < (m : Int)) = false := by simp; omega
  clear ha
  go_enter Tryd.func34, Tryd.ntmps34
  go_wp2_with fail
  refine (end_num s k _ hl (by omega) (by go_simp)).mono ?_
  rintro e w' ⟨rfl, rfl⟩
  rw [HM.out]
  go_wp2_with fail
  refine (atoi_ok tx (Lx.valN tx) _ (by omega) (Lx.atoi_ok HDG.out (by omega) (by omega))).mono ?_
  rintro e w1 ⟨rfl, hb1⟩
  have hz1 := hb1.size
  (try simp at hz1)
  have c0 : w1.cell? ⟨w.heap.size, 0, none⟩ = some (.string ⟨s.toArray⟩) := cell_keep hb1 (by go_simp)
  have c1 : w1.cell? ⟨w.heap.size + 1, 0, none⟩ = some (.int .i64 0) := cell_keep hb1 (by go_simp)
  have c2 : w1.cell? ⟨w.heap.size + 1, 1, none⟩ = some (.string ⟨#[]⟩) := cell_keep hb1 (by go_simp)
  have c3 : w1.cell? ⟨w.heap.size + 1, 2, none⟩ = some (.int .i64 0) := cell_keep hb1 (by go_simp)
  have c4 : w1.cell? ⟨w.heap.size + 1, 3, none⟩ = some (.int .i64 0) := cell_keep hb1 (by go_simp)
  have l0 : w.heap.size < w1.heap.size := by omega
  have l1 : w.heap.size + 1 < w1.heap.size := by omega
  have f0 : w1.frozen? ⟨w.heap.size + 1, 0, none⟩ = false := (hb1.frozen (p := ⟨w.heap.size + 1, 0, none⟩) (by first | (simp; done) | (simp; omega))).trans (by go_simp)
  have f1 : w1.frozen? ⟨w.heap.size + 1, 1, none⟩ = false := (hb1.frozen (p := ⟨w.heap.size + 1, 1, none⟩) (by first | (simp; done) | (simp; omega))).trans (by go_simp)
  have f2 : w1.frozen? ⟨w.heap.size + 1, 2, none⟩ = false := (hb1.frozen (p := ⟨w.heap.size + 1, 2, none⟩) (by first | (simp; done) | (simp; omega))).trans (by go_simp)
  have f3 : w1.frozen? ⟨w.heap.size + 1, 3, none⟩ = false := (hb1.frozen (p := ⟨w.heap.size + 1, 3, none⟩) (by first | (simp; done) | (simp; omega))).trans (by go_simp)
  have be1 : Below w.heap.size w w1 := (by repeat (first | exact Below.refl _ _ | assumption | refine below_drewN ?_ _ | refine Below.setCell ?_ (by first | (simp; done) | (simp; omega)) _ | refine Below.alloc ?_ (by first | (simp; done) | (simp; omega) | omega) _ | refine Below.drew ?_ | refine Below.trans ?_ (Below.mono (by assumption) (by first | (simp; done) | (simp; omega) | omega))))
  clear hb1
  go_wp2_with fail
  refine (inName_sum s k m _).mono ?_
  rintro e w' ⟨rfl, rfl⟩
  rw [HIN.out, HA.out]
  go_wp2_with fail
  refine bodyPost_ret (v := TV 2 tx (Lx.valN tx) k) (by simp [results, Tryd.results34, go_sem, TV, c1, c2, c3, c4]) rfl ⟨rfl, (by repeat (first | exact Below.refl _ _ | assumption | refine below_drewN ?_ _ | refine Below.setCell ?_ (by first | (simp; done) | (simp; omega)) _ | refine Below.alloc ?_ (by first | (simp; done) | (simp; omega) | omega) _ | refine Below.drew ?_ | refine Below.trans ?_ (Below.mono (by assumption) (by first | (simp; done) | (simp; omega) | omega))))⟩
set_option maxRecDepth 100000 in
set_option maxHeartbeats 3200000 in
theorem number_after (s : List UInt8) (k : Nat) (w : World) (hl : s.length ≤ 4294967280) (hk : k < s.length) (h : Lx.numN (s.drop k) ≤ 12) (h1 : 1 ≤ Lx.numN (s.drop k)) (ha : Lx.hd Lx.after ((s.drop k).drop (Lx.numN (s.drop k))) = true) :
    Calls Tryd.prog 34 #[.string ⟨s.toArray⟩, .int .i64 (k : Int)] w fun e w' => e = .panicked (PV 5 k) ∧ Below w.heap.size w w' := by
  have hs := text_size s
  have hle := Lx.numN_le (s.drop k)
  rw [List.length_drop] at hle
  have hdg := Lx.num_digits (s.drop k)
  have hin : inS s (k + Lx.numN (s.drop k)) = Lx.hd Lx.after ((s.drop k).drop (Lx.numN (s.drop k))) := by
    rw [← Lx.num_after, List.drop_drop]
    rfl
  obtain ⟨m, hm⟩ : ∃ m, Lx.numN (s.drop k) = m := ⟨_, rfl⟩
  rw [hm] at hle h hdg hin h1 ha
  have HM := Lib.hid hm
  have ht := text_cut s k m
  have hlt : ((s.drop k).take m).length = m := by rw [List.length_take, List.length_drop]; omega
  obtain ⟨tx, htx⟩ : ∃ tx, (s.drop k).take m = tx := ⟨_, rfl⟩
  rw [htx] at ht hlt hdg
  have HDG := Lib.hid hdg
  have HIN := Lib.hid hin
  clear hm hin hdg
  have e1 : (k : Int) + (m : Int) - (k : Int) = (m : Int) := by omega
  have e2 : ((k : Int) + (m : Int)).toNat = k + m := by omega
  have HA := Lib.hid ha
  have b1 : decide (12 < (m : Int)) = false := by simp; omega
  clear ha
  go_enter Tryd.func34, Tryd.ntmps34
  go_wp2_with fail
  refine (end_num s k _ hl (by omega) (by go_simp)).mono ?_
  rintro e w' ⟨rfl, rfl⟩
  rw [HM.out]
  go_wp2_with fail
  refine (atoi_ok tx (Lx.valN tx) _ (by omega) (Lx.atoi_ok HDG.out (by omega) (by omega))).mono ?_
  rintro e w1 ⟨rfl, hb1⟩
  have hz1 := hb1.size
  (try simp at hz1)
  have c0 : w1.cell? ⟨w.heap.size, 0, none⟩ = some (.string ⟨s.toArray⟩) := cell_keep hb1 (by go_simp)
  have c1 : w1.cell? ⟨w.heap.size + 1, 0, none⟩ = some (.int .i64 0) := cell_keep hb1 (by go_simp)
  have c2 : w1.cell? ⟨w.heap.size + 1, 1, none⟩ = some (.string ⟨#[]⟩) := cell_keep hb1 (by go_simp)
  have c3 : w1.cell? ⟨w.heap.size + 1, 2, none⟩ = some (.int .i64 0) := cell_keep hb1 (by go_simp)
  have c4 : w1.cell? ⟨w.heap.size + 1, 3, none⟩ = some (.int .i64 0) := cell_keep hb1 (by go_simp)
  have l0 : w.heap.size < w1.heap.size := by omega
  have l1 : w.heap.size + 1 < w1.heap.size := by omega
  have f0 : w1.frozen? ⟨w.heap.size + 1, 0, none⟩ = false := (hb1.frozen (p := ⟨w.heap.size + 1, 0, none⟩) (by first | (simp; done) | (simp; omega))).trans (by go_simp)
  have f1 : w1.frozen? ⟨w.heap.size + 1, 1, none⟩ = false := (hb1.frozen (p := ⟨w.heap.size + 1, 1, none⟩) (by first | (simp; done) | (simp; omega))).trans (by go_simp)
  have f2 : w1.frozen? ⟨w.heap.size + 1, 2, none⟩ = false := (hb1.frozen (p := ⟨w.heap.size + 1, 2, none⟩) (by first | (simp; done) | (simp; omega))).trans (by go_simp)
  have f3 : w1.frozen? ⟨w.heap.size + 1, 3, none⟩ = false := (hb1.frozen (p := ⟨w.heap.size + 1, 3, none⟩) (by first | (simp; done) | (simp; omega))).trans (by go_simp)
  have be1 : Below w.heap.size w w1 := (by repeat (first | exact Below.refl _ _ | assumption | refine below_drewN ?_ _ | refine Below.setCell ?_ (by first | (simp; done) | (simp; omega)) _ | refine Below.alloc ?_ (by first | (simp; done) | (simp; omega) | omega) _ | refine Below.drew ?_ | refine Below.trans ?_ (Below.mono (by assumption) (by first | (simp; done) | (simp; omega) | omega))))
  clear hb1
  go_wp2_with fail
  refine (inName_sum s k m _).mono ?_
  rintro e w' ⟨rfl, rfl⟩
  rw [HIN.out, HA.out]
  go_wp2_with fail
  refine ⟨rfl, rfl, (by repeat (first | exact Below.refl _ _ | assumption | refine below_drewN ?_ _ | refine Below.setCell ?_ (by first | (simp; done) | (simp; omega)) _ | refine Below.alloc ?_ (by first | (simp; done) | (simp; omega) | omega) _ | refine Below.drew ?_ | refine Below.trans ?_ (Below.mono (by assumption) (by first | (simp; done) | (simp; omega) | omega))))⟩
set_option maxRecDepth 100000 in
set_option maxHeartbeats 3200000 in
theorem number_long (s : List UInt8) (k : Nat) (w : World) (hl : s.length ≤ 4294967280) (hk : k < s.length) (h : 12 < Lx.numN (s.drop k)) (v : Int) (ha : Lib.atoiAll ((s.drop k).take (Lx.numN (s.drop k))) = .ok v) :
    Calls Tryd.prog 34 #[.string ⟨s.toArray⟩, .int .i64 (k : Int)] w fun e w' => e = .panicked (PV 5 k) ∧ Below w.heap.size w w' := by
  have hs := text_size s
  have hle := Lx.numN_le (s.drop k)
  rw [List.length_drop] at hle
  have hdg := Lx.num_digits (s.drop k)
  have hin : inS s (k + Lx.numN (s.drop k)) = Lx.hd Lx.after ((s.drop k).drop (Lx.numN (s.drop k))) := by
    rw [← Lx.num_after, List.drop_drop]
    rfl
  obtain ⟨m, hm⟩ : ∃ m, Lx.numN (s.drop k) = m := ⟨_, rfl⟩
  rw [hm] at hle h hdg hin ha
  have HM := Lib.hid hm
  have ht := text_cut s k m
  have hlt : ((s.drop k).take m).length = m := by rw [List.length_take, List.length_drop]; omega
  obtain ⟨tx, htx⟩ : ∃ tx, (s.drop k).take m = tx := ⟨_, rfl⟩
  rw [htx] at ht hlt hdg ha
  clear hm hin hdg
  have e1 : (k : Int) + (m : Int) - (k : Int) = (m : Int) := by omega
  have e2 : ((k : Int) + (m : Int)).toNat = k + m := by omega
  have HA := Lib.hid ha
  have b1 : decide (12 < (m : Int)) = true := by simp; omega
  clear ha
  go_enter Tryd.func34, Tryd.ntmps34
  go_wp2_with fail
  refine (end_num s k _ hl (by omega) (by go_simp)).mono ?_
  rintro e w' ⟨rfl, rfl⟩
  rw [HM.out]
  go_wp2_with fail
  refine (atoi_ok tx v _ (by omega) HA.out).mono ?_
  rintro e w1 ⟨rfl, hb1⟩
  have hz1 := hb1.size
  (try simp at hz1)
  have c0 : w1.cell? ⟨w.heap.size, 0, none⟩ = some (.string ⟨s.toArray⟩) := cell_keep hb1 (by go_simp)
  have c1 : w1.cell? ⟨w.heap.size + 1, 0, none⟩ = some (.int .i64 0) := cell_keep hb1 (by go_simp)
  have c2 : w1.cell? ⟨w.heap.size + 1, 1, none⟩ = some (.string ⟨#[]⟩) := cell_keep hb1 (by go_simp)
  have c3 : w1.cell? ⟨w.heap.size + 1, 2, none⟩ = some (.int .i64 0) := cell_keep hb1 (by go_simp)
  have c4 : w1.cell? ⟨w.heap.size + 1, 3, none⟩ = some (.int .i64 0) := cell_keep hb1 (by go_simp)
  have l0 : w.heap.size < w1.heap.size := by omega
  have l1 : w.heap.size + 1 < w1.heap.size := by omega
  have f0 : w1.frozen? ⟨w.heap.size + 1, 0, none⟩ = false := (hb1.frozen (p := ⟨w.heap.size + 1, 0, none⟩) (by first | (simp; done) | (simp; omega))).trans (by go_simp)
  have f1 : w1.frozen? ⟨w.heap.size + 1, 1, none⟩ = false := (hb1.frozen (p := ⟨w.heap.size + 1, 1, none⟩) (by first | (simp; done) | (simp; omega))).trans (by go_simp)
  have f2 : w1.frozen? ⟨w.heap.size + 1, 2, none⟩ = false := (hb1.frozen (p := ⟨w.heap.size + 1, 2, none⟩) (by first | (simp; done) | (simp; omega))).trans (by go_simp)
  have f3 : w1.frozen? ⟨w.heap.size + 1, 3, none⟩ = false := (hb1.frozen (p := ⟨w.heap.size + 1, 3, none⟩) (by first | (simp; done) | (simp; omega))).trans (by go_simp)
  have be1 : Below w.heap.size w w1 := (by repeat (first | exact Below.refl _ _ | assumption | refine below_drewN ?_ _ | refine Below.setCell ?_ (by first | (simp; done) | (simp; omega)) _ | refine Below.alloc ?_ (by first | (simp; done) | (simp; omega) | omega) _ | refine Below.drew ?_ | refine Below.trans ?_ (Below.mono (by assumption) (by first | (simp; done) | (simp; omega) | omega))))
  clear hb1
  go_wp2_with fail
  refine ⟨rfl, rfl, (by repeat (first | exact Below.refl _ _ | assumption | refine below_drewN ?_ _ | refine Below.setCell ?_ (by first | (simp; done) | (simp; omega)) _ | refine Below.alloc ?_ (by first | (simp; done) | (simp; omega) | omega) _ | refine Below.drew ?_ | refine Below.trans ?_ (Below.mono (by assumption) (by first | (simp; done) | (simp; omega) | omega))))⟩
set_option maxRecDepth 100000 in
set_option maxHeartbeats 3200000 in
theorem number_far (s : List UInt8) (k : Nat) (w : World) (hl : s.length ≤ 4294967280) (hk : k < s.length) (hE : Env w) (h : 12 < Lx.numN (s.drop k)) (ha : Lib.atoiAll ((s.drop k).take (Lx.numN (s.drop k))) = .range) :
    Calls Tryd.prog 34 #[.string ⟨s.toArray⟩, .int .i64 (k : Int)] w fun e w' => e = .panicked (PV 5 k) ∧ Below w.heap.size w w' := by
  have hs := text_size s
  have hle := Lx.numN_le (s.drop k)
  rw [List.length_drop] at hle
  have hdg := Lx.num_digits (s.drop k)
  have hin : inS s (k + Lx.numN (s.drop k)) = Lx.hd Lx.after ((s.drop k).drop (Lx.numN (s.drop k))) := by
    rw [← Lx.num_after, List.drop_drop]
    rfl
  obtain ⟨m, hm⟩ : ∃ m, Lx.numN (s.drop k) = m := ⟨_, rfl⟩
  rw [hm] at hle h hdg hin ha
  have HM := Lib.hid hm
  have ht := text_cut s k m
  have hlt : ((s.drop k).take m).length = m := by rw [List.length_take, List.length_drop]; omega
  obtain ⟨tx, htx⟩ : ∃ tx, (s.drop k).take m = tx := ⟨_, rfl⟩
  rw [htx] at ht hlt hdg ha
  clear hm hin hdg
  have e1 : (k : Int) + (m : Int) - (k : Int) = (m : Int) := by omega
  have e2 : ((k : Int) + (m : Int)).toNat = k + m := by omega
  have HA := Lib.hid ha
  have HEV := Lib.hid hE
  clear ha hE
  go_enter Tryd.func34, Tryd.ntmps34
  go_wp2_with fail
  refine (end_num s k _ hl (by omega) (by go_simp)).mono ?_
  rintro e w' ⟨rfl, rfl⟩
  rw [HM.out]
  go_wp2_with fail
  refine (atoi_far tx _ (by omega) (HEV.out.below (by repeat (first | exact Below.refl _ _ | assumption | refine below_drewN ?_ _ | refine Below.setCell ?_ (by first | (simp; done) | (simp; omega)) _ | refine Below.alloc ?_ (by first | (simp; done) | (simp; omega) | omega) _ | refine Below.drew ?_ | refine Below.trans ?_ (Below.mono (by assumption) (by first | (simp; done) | (simp; omega) | omega))))) HA.out).mono ?_
  rintro e w1 ⟨⟨v, N, rfl⟩, hb1⟩
  have hz1 := hb1.size
  (try simp at hz1)
  have c0 : w1.cell? ⟨w.heap.size, 0, none⟩ = some (.string ⟨s.toArray⟩) := cell_keep hb1 (by go_simp)
  have c1 : w1.cell? ⟨w.heap.size + 1, 0, none⟩ = some (.int .i64 0) := cell_keep hb1 (by go_simp)
  have c2 : w1.cell? ⟨w.heap.size + 1, 1, none⟩ = some (.string ⟨#[]⟩) := cell_keep hb1 (by go_simp)
  have c3 : w1.cell? ⟨w.heap.size + 1, 2, none⟩ = some (.int .i64 0) := cell_keep hb1 (by go_simp)
  have c4 : w1.cell? ⟨w.heap.size + 1, 3, none⟩ = some (.int .i64 0) := cell_keep hb1 (by go_simp)
  have l0 : w.heap.size < w1.heap.size := by omega
  have l1 : w.heap.size + 1 < w1.heap.size := by omega
  have f0 : w1.frozen? ⟨w.heap.size + 1, 0, none⟩ = false := (hb1.frozen (p := ⟨w.heap.size + 1, 0, none⟩) (by first | (simp; done) | (simp; omega))).trans (by go_simp)
  have f1 : w1.frozen? ⟨w.heap.size + 1, 1, none⟩ = false := (hb1.frozen (p := ⟨w.heap.size + 1, 1, none⟩) (by first | (simp; done) | (simp; omega))).trans (by go_simp)
  have f2 : w1.frozen? ⟨w.heap.size + 1, 2, none⟩ = false := (hb1.frozen (p := ⟨w.heap.size + 1, 2, none⟩) (by first | (simp; done) | (simp; omega))).trans (by go_simp)
  have f3 : w1.frozen? ⟨w.heap.size + 1, 3, none⟩ = false := (hb1.frozen (p := ⟨w.heap.size + 1, 3, none⟩) (by first | (simp; done) | (simp; omega))).trans (by go_simp)
  have be1 : Below w.heap.size w w1 := (by repeat (first | exact Below.refl _ _ | assumption | refine below_drewN ?_ _ | refine Below.setCell ?_ (by first | (simp; done) | (simp; omega)) _ | refine Below.alloc ?_ (by first | (simp; done) | (simp; omega) | omega) _ | refine Below.drew ?_ | refine Below.trans ?_ (Below.mono (by assumption) (by first | (simp; done) | (simp; omega) | omega))))
  clear hb1
  go_wp2_with fail
  refine ⟨rfl, rfl, (by repeat (first | exact Below.refl _ _ | assumption | refine below_drewN ?_ _ | refine Below.setCell ?_ (by first | (simp; done) | (simp; omega)) _ | refine Below.alloc ?_ (by first | (simp; done) | (simp; omega) | omega) _ | refine Below.drew ?_ | refine Below.trans ?_ (Below.mono (by assumption) (by first | (simp; done) | (simp; omega) | omega))))⟩
end Go.Proofs.YtedeodeejpaioaaDoor

/- DeadlineBounds: the walk of the law. -/
import Derived.Test.YtlbfnafniobnaaaDoorDnP
import Derived.Test.YtlbfnafniobnaaaDoorDnMath
import Derived.Test.YtlbfnafniobnaaaDoorDlZ
namespace Go.Proofs.YtlbfnafniobnaaaDoor
open Go.RowKit Go.Shelf

theorem valid_over {t : Dl.T} {ev : Int} (h : 1000 < ev) : validT t ev = false := by
  unfold validT
  rw [decide_eq_false (show ¬ ev ≤ 1000 by omega)]
  simp
open Classical in
/-- Eval, however many events there are -/
theorem eval_wide (t : Dl.T) (c : Cal) (q : Option Addr) (capq : Nat) (l : List Wh) (w : World) (ht : TAt w t) (hc : CalIn w c) (hl : EvAt w q l) (hE : Env w) :
    Calls Tryd.prog 12 #[.agg #[.int .i64 t.kd, .int .i64 t.n, .int .i64 t.ev, .bool t.bz, .slice t.p t.kids.length t.cap], .agg #[.bool c.b0, .bool c.b1, .bool c.b2, .bool c.b3, .bool c.b4, .bool c.b5, .bool c.b6, .slice c.p c.hs.length c.cap], .slice q l.length capq] w fun e w' => e = .returned (R3 (evalS t c l)) ∧ Below w.heap.size w w' := by
  by_cases h : l.length ≤ 1000
  · exact eval_at t c q capq l w ht hc hl h hE
  · have hv := valid_over (t := t) (show 1000 < (l.length : Int) by omega)
    rw [show evalS t c l = (0, false, 1) by rw [evalS_eq, if_neg (fun h' => by rw [hv] at h'; cases h'.2.1)]]
    cases hd : decide (CalOK c) with
    | false => exact eval_cal _ t c q capq l w ht (Nat.le_refl _) hc hl hd
    | true => exact eval_term _ t c q capq l w ht (Nat.le_refl _) hc hl hd hv
theorem bounds_forms (t : Dl.T) (c : Cal) (lo hi : List Wh) : boundsS t c lo hi = (0, 0, false, 1) ∨ boundsS t c lo hi = (0, 0, false, 2) ∨ boundsS t c lo hi = (0, 0, false, 0) ∨
    ∃ a b, boundsS t c lo hi = (a, b, true, 0) ∧ evalS t c lo = (a, true, 0) ∧ evalS t c hi = (b, true, 0) ∧ a ≤ b := by
  unfold boundsS
  obtain ⟨⟨a, ok, e⟩, ha⟩ : ∃ x, evalS t c lo = x := ⟨_, rfl⟩
  obtain ⟨⟨b, is, f⟩, hb⟩ : ∃ x, evalS t c hi = x := ⟨_, rfl⟩
  rw [ha, hb]
  unfold boundsR
  dsimp only
  by_cases h1 : e = 1
  · rw [if_pos h1]
    exact .inl rfl
  rw [if_neg h1]
  by_cases h2 : f = 1
  · rw [if_pos h2]
    exact .inl rfl
  rw [if_neg h2]
  cases ho : ordL lo hi with
  | false => exact .inl rfl
  | true =>
    rw [if_neg (by simp)]
    have hm := eval_mono t c ho
    rw [ha, hb] at hm
    simp only [Prod.mk.injEq] at hm
    rcases hm with ⟨_, _, h⟩ | ⟨_, _, h⟩ | ⟨⟨rfl, rfl, rfl⟩, ⟨rfl, rfl, rfl⟩⟩ | ⟨a', b', ⟨rfl, rfl, rfl⟩, ⟨rfl, rfl, rfl⟩, hab⟩ | ⟨⟨rfl, rfl, rfl⟩, _⟩
    · exact absurd h h1
    · exact absurd h h2
    · exact .inr (.inr (.inl rfl))
    · exact .inr (.inr (.inr ⟨_, _, rfl, rfl, rfl, hab⟩))
    · refine .inr (.inl ?_)
      by_cases h0 : e = 0
      · rw [if_pos h0, if_neg (by omega)]
      · rw [if_neg h0]
theorem mid_forms {t : Dl.T} {c : Cal} {lo mid hi : List Wh} {a b : Int} (ha : evalS t c lo = (a, true, 0)) (hb : evalS t c hi = (b, true, 0)) (h1 : ordL lo mid = true) (h2 : ordL mid hi = true) :
    evalS t c mid = (0, false, 1) ∨ ∃ d, evalS t c mid = (d, true, 0) ∧ a ≤ d ∧ d ≤ b := by
  have m1 := eval_mono t c h1
  have m2 := eval_mono t c h2
  rw [ha] at m1
  rw [hb] at m2
  obtain ⟨⟨d, ok, e⟩, hd⟩ : ∃ x, evalS t c mid = x := ⟨_, rfl⟩
  rw [hd] at m1 m2 ⊢
  simp only [Prod.mk.injEq] at m1 m2 ⊢
  rcases m1 with ⟨_, h, _⟩ | h | ⟨⟨_, h, _⟩, _⟩ | ⟨a', d', ⟨rfl, _, _⟩, ⟨rfl, rfl, rfl⟩, hl⟩ | ⟨⟨_, _, h⟩, _⟩
  · cases h
  · exact .inl h
  · cases h
  · rcases m2 with ⟨_, h, _⟩ | ⟨_, h, _⟩ | ⟨⟨_, h, _⟩, _⟩ | ⟨d', b', ⟨rfl, _, _⟩, ⟨rfl, _, _⟩, hl2⟩ | ⟨⟨_, h, _⟩, _⟩
    · cases h
    · cases h
    · cases h
    · exact .inr ⟨_, ⟨rfl, rfl, rfl⟩, hl, hl2⟩
    · cases h
  · rcases m2 with ⟨_, _, h'⟩ | ⟨_, h', _⟩ | ⟨⟨_, _, h'⟩, _⟩ | ⟨d', b', ⟨_, _, h'⟩, _, _⟩ | ⟨⟨_, h', _⟩, _⟩
    · rw [h] at h'; cases h'
    · cases h'
    · rw [h] at h'; cases h'
    · rw [h] at h'; cases h'
    · cases h'
set_option maxRecDepth 100000 in
set_option maxHeartbeats 1600000 in
theorem bo_s1 (t : Dl.T) (c : Cal) (q1 q2 q3 : Option Addr) (cap1 cap2 cap3 : Nat) (lo mid hi : List Wh) (w : World) (ht : TAt w t) (hn : LenOK t) (hc : CalIn w c) (hl : EvAt w q1 lo) (hm : EvAt w q2 mid) (hh : EvAt w q3 hi) (he : Env w) (hs : smallB t lo = false) :
    Calls Tryd.prog 4 #[.agg #[.int .i64 t.kd, .int .i64 t.n, .int .i64 t.ev, .bool t.bz, .slice t.p t.kids.length t.cap], .agg #[.bool c.b0, .bool c.b1, .bool c.b2, .bool c.b3, .bool c.b4, .bool c.b5, .bool c.b6, .slice c.p c.hs.length c.cap], .slice q1 lo.length cap1, .slice q2 mid.length cap2, .slice q3 hi.length cap3] w fun e w' => e = .returned (.bool true) ∧ Below w.heap.size w w' := by
  have HT0 := Lib.hid ht
  clear ht
  have HC0 := Lib.hid hc
  clear hc
  have HL0 := Lib.hid hl
  clear hl
  have HM0 := Lib.hid hm
  clear hm
  have HH0 := Lib.hid hh
  clear hh
  have HE0 := Lib.hid he
  clear he
  have HN := Lib.hid hn
  clear hn
  have HS := Lib.hid hs
  clear hs
  go_enter Tryd.func4, Tryd.ntmps4
  go_wp2_with fail
  refine (head_any _ (HE0.out.below (by repeat (first | exact Below.refl _ _ | assumption | refine below_drewN ?_ _ | refine Below.setCell ?_ (by first | (simp; done) | (simp; omega)) _ | refine Below.alloc ?_ (by first | (simp; done) | (simp; omega) | omega) _ | refine Below.drew ?_ | refine Below.trans ?_ (Below.mono (by assumption) (by first | (simp; done) | (simp; omega) | omega)))))).mono ?_
  rintro e w1 ⟨rfl, hb1⟩
  have hz1 := hb1.size
  (try simp at hz1)
  have bb1 : Below w.heap.size w w1 := (by repeat (first | exact Below.refl _ _ | assumption | refine below_drewN ?_ _ | refine Below.setCell ?_ (by first | (simp; done) | (simp; omega)) _ | refine Below.alloc ?_ (by first | (simp; done) | (simp; omega) | omega) _ | refine Below.drew ?_ | refine Below.trans ?_ (Below.mono (by assumption) (by first | (simp; done) | (simp; omega) | omega))))
  have be1 : Below w.heap.size w w1 := bb1
  have c1_t_0 : w1.cell? ⟨w.heap.size, 0, none⟩ = some (.int .i64 t.kd) := cell_keep hb1 (by go_simp)
  have c1_t_1 : w1.cell? ⟨w.heap.size, 1, none⟩ = some (.int .i64 t.n) := cell_keep hb1 (by go_simp)
  have c1_t_2 : w1.cell? ⟨w.heap.size, 2, none⟩ = some (.int .i64 t.ev) := cell_keep hb1 (by go_simp)
  have c1_t_3 : w1.cell? ⟨w.heap.size, 3, none⟩ = some (.bool t.bz) := cell_keep hb1 (by go_simp)
  have c1_t_4 : w1.cell? ⟨w.heap.size, 4, none⟩ = some (.slice t.p t.kids.length t.cap) := cell_keep hb1 (by go_simp)
  have l1_t : w.heap.size < w1.heap.size := by omega
  have m1_t : w.heap.size < w1.heap.size + 1 := by omega
  have c1_c_0 : w1.cell? ⟨w.heap.size + 1, 0, none⟩ = some (.bool c.b0) := cell_keep hb1 (by go_simp)
  have c1_c_1 : w1.cell? ⟨w.heap.size + 1, 1, none⟩ = some (.bool c.b1) := cell_keep hb1 (by go_simp)
  have c1_c_2 : w1.cell? ⟨w.heap.size + 1, 2, none⟩ = some (.bool c.b2) := cell_keep hb1 (by go_simp)
  have c1_c_3 : w1.cell? ⟨w.heap.size + 1, 3, none⟩ = some (.bool c.b3) := cell_keep hb1 (by go_simp)
  have c1_c_4 : w1.cell? ⟨w.heap.size + 1, 4, none⟩ = some (.bool c.b4) := cell_keep hb1 (by go_simp)
  have c1_c_5 : w1.cell? ⟨w.heap.size + 1, 5, none⟩ = some (.bool c.b5) := cell_keep hb1 (by go_simp)
  have c1_c_6 : w1.cell? ⟨w.heap.size + 1, 6, none⟩ = some (.bool c.b6) := cell_keep hb1 (by go_simp)
  have c1_c_7 : w1.cell? ⟨w.heap.size + 1, 7, none⟩ = some (.slice c.p c.hs.length c.cap) := cell_keep hb1 (by go_simp)
  have l1_c : w.heap.size + 1 < w1.heap.size := by omega
  have m1_c : w.heap.size + 1 < w1.heap.size + 1 := by omega
  have HT1 := Lib.hid (HT0.out.below bb1)
  have HC1 := Lib.hid (HC0.out.below bb1)
  have HL1 := Lib.hid (HL0.out.below bb1)
  have HM1 := Lib.hid (HM0.out.below bb1)
  have HH1 := Lib.hid (HH0.out.below bb1)
  have HE1 := Lib.hid (HE0.out.below bb1)
  have BE1 := Lib.hid be1
  clear be1 bb1 hb1 HT0 HC0 HL0 HM0 HH0 HE0
  go_wp2_with fail
  refine (small_any t q1 lo cap1 _ HN.out (HT1.out.below (by repeat (first | exact Below.refl _ _ | assumption | refine below_drewN ?_ _ | refine Below.setCell ?_ (by first | (simp; done) | (simp; omega)) _ | refine Below.alloc ?_ (by first | (simp; done) | (simp; omega) | omega) _ | refine Below.drew ?_ | refine Below.trans ?_ (Below.mono (by assumption) (by first | (simp; done) | (simp; omega) | omega)))))).mono ?_
  rintro e w2 ⟨rfl, hb2⟩
  rw [HS.out]
  have hz2 := hb2.size
  (try simp at hz2)
  have bb2 : Below w1.heap.size w1 w2 := (by repeat (first | exact Below.refl _ _ | assumption | refine below_drewN ?_ _ | refine Below.setCell ?_ (by first | (simp; done) | (simp; omega)) _ | refine Below.alloc ?_ (by first | (simp; done) | (simp; omega) | omega) _ | refine Below.drew ?_ | refine Below.trans ?_ (Below.mono (by assumption) (by first | (simp; done) | (simp; omega) | omega))))
  have be2 : Below w.heap.size w w2 := BE1.out.trans (bb2.mono BE1.out.size)
  have c2_t_0 : w2.cell? ⟨w.heap.size, 0, none⟩ = some (.int .i64 t.kd) := cell_keep bb2 c1_t_0
  have c2_t_1 : w2.cell? ⟨w.heap.size, 1, none⟩ = some (.int .i64 t.n) := cell_keep bb2 c1_t_1
  have c2_t_2 : w2.cell? ⟨w.heap.size, 2, none⟩ = some (.int .i64 t.ev) := cell_keep bb2 c1_t_2
  have c2_t_3 : w2.cell? ⟨w.heap.size, 3, none⟩ = some (.bool t.bz) := cell_keep bb2 c1_t_3
  have c2_t_4 : w2.cell? ⟨w.heap.size, 4, none⟩ = some (.slice t.p t.kids.length t.cap) := cell_keep bb2 c1_t_4
  have l2_t : w.heap.size < w2.heap.size := by omega
  have m2_t : w.heap.size < w2.heap.size + 1 := by omega
  have c2_c_0 : w2.cell? ⟨w.heap.size + 1, 0, none⟩ = some (.bool c.b0) := cell_keep bb2 c1_c_0
  have c2_c_1 : w2.cell? ⟨w.heap.size + 1, 1, none⟩ = some (.bool c.b1) := cell_keep bb2 c1_c_1
  have c2_c_2 : w2.cell? ⟨w.heap.size + 1, 2, none⟩ = some (.bool c.b2) := cell_keep bb2 c1_c_2
  have c2_c_3 : w2.cell? ⟨w.heap.size + 1, 3, none⟩ = some (.bool c.b3) := cell_keep bb2 c1_c_3
  have c2_c_4 : w2.cell? ⟨w.heap.size + 1, 4, none⟩ = some (.bool c.b4) := cell_keep bb2 c1_c_4
  have c2_c_5 : w2.cell? ⟨w.heap.size + 1, 5, none⟩ = some (.bool c.b5) := cell_keep bb2 c1_c_5
  have c2_c_6 : w2.cell? ⟨w.heap.size + 1, 6, none⟩ = some (.bool c.b6) := cell_keep bb2 c1_c_6
  have c2_c_7 : w2.cell? ⟨w.heap.size + 1, 7, none⟩ = some (.slice c.p c.hs.length c.cap) := cell_keep bb2 c1_c_7
  have l2_c : w.heap.size + 1 < w2.heap.size := by omega
  have m2_c : w.heap.size + 1 < w2.heap.size + 1 := by omega
  have HT2 := Lib.hid (HT1.out.below bb2)
  have HC2 := Lib.hid (HC1.out.below bb2)
  have HL2 := Lib.hid (HL1.out.below bb2)
  have HM2 := Lib.hid (HM1.out.below bb2)
  have HH2 := Lib.hid (HH1.out.below bb2)
  have HE2 := Lib.hid (HE1.out.below bb2)
  have BE2 := Lib.hid be2
  clear be2 bb2 hb2 BE1 c1_t_0 c1_t_1 c1_t_2 c1_t_3 c1_t_4 l1_t m1_t c1_c_0 c1_c_1 c1_c_2 c1_c_3 c1_c_4 c1_c_5 c1_c_6 c1_c_7 l1_c m1_c HT1 HC1 HL1 HM1 HH1 HE1
  go_wp2_with fail
  go_ret
  exact ⟨rfl, (by have q := BE2.out; repeat (first | exact q | refine Below.setCell ?_ (by first | (simp; done) | omega | (simp; omega)) _ | refine Below.alloc ?_ (by first | (simp; done) | omega | (simp; omega)) _ | refine below_drewN ?_ _ | refine Below.drew ?_))⟩
set_option maxRecDepth 100000 in
set_option maxHeartbeats 1600000 in
theorem bo_s2 (t : Dl.T) (c : Cal) (q1 q2 q3 : Option Addr) (cap1 cap2 cap3 : Nat) (lo mid hi : List Wh) (w : World) (ht : TAt w t) (hn : LenOK t) (hc : CalIn w c) (hl : EvAt w q1 lo) (hm : EvAt w q2 mid) (hh : EvAt w q3 hi) (he : Env w) (hs : smallB t lo = true) (hs2 : smallB t hi = false) :
    Calls Tryd.prog 4 #[.agg #[.int .i64 t.kd, .int .i64 t.n, .int .i64 t.ev, .bool t.bz, .slice t.p t.kids.length t.cap], .agg #[.bool c.b0, .bool c.b1, .bool c.b2, .bool c.b3, .bool c.b4, .bool c.b5, .bool c.b6, .slice c.p c.hs.length c.cap], .slice q1 lo.length cap1, .slice q2 mid.length cap2, .slice q3 hi.length cap3] w fun e w' => e = .returned (.bool true) ∧ Below w.heap.size w w' := by
  have HT0 := Lib.hid ht
  clear ht
  have HC0 := Lib.hid hc
  clear hc
  have HL0 := Lib.hid hl
  clear hl
  have HM0 := Lib.hid hm
  clear hm
  have HH0 := Lib.hid hh
  clear hh
  have HE0 := Lib.hid he
  clear he
  have HN := Lib.hid hn
  clear hn
  have HS := Lib.hid hs
  clear hs
  have HS2 := Lib.hid hs2
  clear hs2
  go_enter Tryd.func4, Tryd.ntmps4
  go_wp2_with fail
  refine (head_any _ (HE0.out.below (by repeat (first | exact Below.refl _ _ | assumption | refine below_drewN ?_ _ | refine Below.setCell ?_ (by first | (simp; done) | (simp; omega)) _ | refine Below.alloc ?_ (by first | (simp; done) | (simp; omega) | omega) _ | refine Below.drew ?_ | refine Below.trans ?_ (Below.mono (by assumption) (by first | (simp; done) | (simp; omega) | omega)))))).mono ?_
  rintro e w1 ⟨rfl, hb1⟩
  have hz1 := hb1.size
  (try simp at hz1)
  have bb1 : Below w.heap.size w w1 := (by repeat (first | exact Below.refl _ _ | assumption | refine below_drewN ?_ _ | refine Below.setCell ?_ (by first | (simp; done) | (simp; omega)) _ | refine Below.alloc ?_ (by first | (simp; done) | (simp; omega) | omega) _ | refine Below.drew ?_ | refine Below.trans ?_ (Below.mono (by assumption) (by first | (simp; done) | (simp; omega) | omega))))
  have be1 : Below w.heap.size w w1 := bb1
  have c1_t_0 : w1.cell? ⟨w.heap.size, 0, none⟩ = some (.int .i64 t.kd) := cell_keep hb1 (by go_simp)
  have c1_t_1 : w1.cell? ⟨w.heap.size, 1, none⟩ = some (.int .i64 t.n) := cell_keep hb1 (by go_simp)
  have c1_t_2 : w1.cell? ⟨w.heap.size, 2, none⟩ = some (.int .i64 t.ev) := cell_keep hb1 (by go_simp)
  have c1_t_3 : w1.cell? ⟨w.heap.size, 3, none⟩ = some (.bool t.bz) := cell_keep hb1 (by go_simp)
  have c1_t_4 : w1.cell? ⟨w.heap.size, 4, none⟩ = some (.slice t.p t.kids.length t.cap) := cell_keep hb1 (by go_simp)
  have l1_t : w.heap.size < w1.heap.size := by omega
  have m1_t : w.heap.size < w1.heap.size + 1 := by omega
  have c1_c_0 : w1.cell? ⟨w.heap.size + 1, 0, none⟩ = some (.bool c.b0) := cell_keep hb1 (by go_simp)
  have c1_c_1 : w1.cell? ⟨w.heap.size + 1, 1, none⟩ = some (.bool c.b1) := cell_keep hb1 (by go_simp)
  have c1_c_2 : w1.cell? ⟨w.heap.size + 1, 2, none⟩ = some (.bool c.b2) := cell_keep hb1 (by go_simp)
  have c1_c_3 : w1.cell? ⟨w.heap.size + 1, 3, none⟩ = some (.bool c.b3) := cell_keep hb1 (by go_simp)
  have c1_c_4 : w1.cell? ⟨w.heap.size + 1, 4, none⟩ = some (.bool c.b4) := cell_keep hb1 (by go_simp)
  have c1_c_5 : w1.cell? ⟨w.heap.size + 1, 5, none⟩ = some (.bool c.b5) := cell_keep hb1 (by go_simp)
  have c1_c_6 : w1.cell? ⟨w.heap.size + 1, 6, none⟩ = some (.bool c.b6) := cell_keep hb1 (by go_simp)
  have c1_c_7 : w1.cell? ⟨w.heap.size + 1, 7, none⟩ = some (.slice c.p c.hs.length c.cap) := cell_keep hb1 (by go_simp)
  have l1_c : w.heap.size + 1 < w1.heap.size := by omega
  have m1_c : w.heap.size + 1 < w1.heap.size + 1 := by omega
  have HT1 := Lib.hid (HT0.out.below bb1)
  have HC1 := Lib.hid (HC0.out.below bb1)
  have HL1 := Lib.hid (HL0.out.below bb1)
  have HM1 := Lib.hid (HM0.out.below bb1)
  have HH1 := Lib.hid (HH0.out.below bb1)
  have HE1 := Lib.hid (HE0.out.below bb1)
  have BE1 := Lib.hid be1
  clear be1 bb1 hb1 HT0 HC0 HL0 HM0 HH0 HE0
  go_wp2_with fail
  refine (small_any t q1 lo cap1 _ HN.out (HT1.out.below (by repeat (first | exact Below.refl _ _ | assumption | refine below_drewN ?_ _ | refine Below.setCell ?_ (by first | (simp; done) | (simp; omega)) _ | refine Below.alloc ?_ (by first | (simp; done) | (simp; omega) | omega) _ | refine Below.drew ?_ | refine Below.trans ?_ (Below.mono (by assumption) (by first | (simp; done) | (simp; omega) | omega)))))).mono ?_
  rintro e w2 ⟨rfl, hb2⟩
  rw [HS.out]
  have hz2 := hb2.size
  (try simp at hz2)
  have bb2 : Below w1.heap.size w1 w2 := (by repeat (first | exact Below.refl _ _ | assumption | refine below_drewN ?_ _ | refine Below.setCell ?_ (by first | (simp; done) | (simp; omega)) _ | refine Below.alloc ?_ (by first | (simp; done) | (simp; omega) | omega) _ | refine Below.drew ?_ | refine Below.trans ?_ (Below.mono (by assumption) (by first | (simp; done) | (simp; omega) | omega))))
  have be2 : Below w.heap.size w w2 := BE1.out.trans (bb2.mono BE1.out.size)
  have c2_t_0 : w2.cell? ⟨w.heap.size, 0, none⟩ = some (.int .i64 t.kd) := cell_keep bb2 c1_t_0
  have c2_t_1 : w2.cell? ⟨w.heap.size, 1, none⟩ = some (.int .i64 t.n) := cell_keep bb2 c1_t_1
  have c2_t_2 : w2.cell? ⟨w.heap.size, 2, none⟩ = some (.int .i64 t.ev) := cell_keep bb2 c1_t_2
  have c2_t_3 : w2.cell? ⟨w.heap.size, 3, none⟩ = some (.bool t.bz) := cell_keep bb2 c1_t_3
  have c2_t_4 : w2.cell? ⟨w.heap.size, 4, none⟩ = some (.slice t.p t.kids.length t.cap) := cell_keep bb2 c1_t_4
  have l2_t : w.heap.size < w2.heap.size := by omega
  have m2_t : w.heap.size < w2.heap.size + 1 := by omega
  have c2_c_0 : w2.cell? ⟨w.heap.size + 1, 0, none⟩ = some (.bool c.b0) := cell_keep bb2 c1_c_0
  have c2_c_1 : w2.cell? ⟨w.heap.size + 1, 1, none⟩ = some (.bool c.b1) := cell_keep bb2 c1_c_1
  have c2_c_2 : w2.cell? ⟨w.heap.size + 1, 2, none⟩ = some (.bool c.b2) := cell_keep bb2 c1_c_2
  have c2_c_3 : w2.cell? ⟨w.heap.size + 1, 3, none⟩ = some (.bool c.b3) := cell_keep bb2 c1_c_3
  have c2_c_4 : w2.cell? ⟨w.heap.size + 1, 4, none⟩ = some (.bool c.b4) := cell_keep bb2 c1_c_4
  have c2_c_5 : w2.cell? ⟨w.heap.size + 1, 5, none⟩ = some (.bool c.b5) := cell_keep bb2 c1_c_5
  have c2_c_6 : w2.cell? ⟨w.heap.size + 1, 6, none⟩ = some (.bool c.b6) := cell_keep bb2 c1_c_6
  have c2_c_7 : w2.cell? ⟨w.heap.size + 1, 7, none⟩ = some (.slice c.p c.hs.length c.cap) := cell_keep bb2 c1_c_7
  have l2_c : w.heap.size + 1 < w2.heap.size := by omega
  have m2_c : w.heap.size + 1 < w2.heap.size + 1 := by omega
  have HT2 := Lib.hid (HT1.out.below bb2)
  have HC2 := Lib.hid (HC1.out.below bb2)
  have HL2 := Lib.hid (HL1.out.below bb2)
  have HM2 := Lib.hid (HM1.out.below bb2)
  have HH2 := Lib.hid (HH1.out.below bb2)
  have HE2 := Lib.hid (HE1.out.below bb2)
  have BE2 := Lib.hid be2
  clear be2 bb2 hb2 BE1 c1_t_0 c1_t_1 c1_t_2 c1_t_3 c1_t_4 l1_t m1_t c1_c_0 c1_c_1 c1_c_2 c1_c_3 c1_c_4 c1_c_5 c1_c_6 c1_c_7 l1_c m1_c HT1 HC1 HL1 HM1 HH1 HE1
  go_wp2_with fail
  refine (small_any t q3 hi cap3 _ HN.out (HT2.out.below (by repeat (first | exact Below.refl _ _ | assumption | refine below_drewN ?_ _ | refine Below.setCell ?_ (by first | (simp; done) | (simp; omega)) _ | refine Below.alloc ?_ (by first | (simp; done) | (simp; omega) | omega) _ | refine Below.drew ?_ | refine Below.trans ?_ (Below.mono (by assumption) (by first | (simp; done) | (simp; omega) | omega)))))).mono ?_
  rintro e w3 ⟨rfl, hb3⟩
  rw [HS2.out]
  have hz3 := hb3.size
  (try simp at hz3)
  have bb3 : Below w2.heap.size w2 w3 := (by repeat (first | exact Below.refl _ _ | assumption | refine below_drewN ?_ _ | refine Below.setCell ?_ (by first | (simp; done) | (simp; omega)) _ | refine Below.alloc ?_ (by first | (simp; done) | (simp; omega) | omega) _ | refine Below.drew ?_ | refine Below.trans ?_ (Below.mono (by assumption) (by first | (simp; done) | (simp; omega) | omega))))
  have be3 : Below w.heap.size w w3 := BE2.out.trans (bb3.mono BE2.out.size)
  have c3_t_0 : w3.cell? ⟨w.heap.size, 0, none⟩ = some (.int .i64 t.kd) := cell_keep bb3 c2_t_0
  have c3_t_1 : w3.cell? ⟨w.heap.size, 1, none⟩ = some (.int .i64 t.n) := cell_keep bb3 c2_t_1
  have c3_t_2 : w3.cell? ⟨w.heap.size, 2, none⟩ = some (.int .i64 t.ev) := cell_keep bb3 c2_t_2
  have c3_t_3 : w3.cell? ⟨w.heap.size, 3, none⟩ = some (.bool t.bz) := cell_keep bb3 c2_t_3
  have c3_t_4 : w3.cell? ⟨w.heap.size, 4, none⟩ = some (.slice t.p t.kids.length t.cap) := cell_keep bb3 c2_t_4
  have l3_t : w.heap.size < w3.heap.size := by omega
  have m3_t : w.heap.size < w3.heap.size + 1 := by omega
  have c3_c_0 : w3.cell? ⟨w.heap.size + 1, 0, none⟩ = some (.bool c.b0) := cell_keep bb3 c2_c_0
  have c3_c_1 : w3.cell? ⟨w.heap.size + 1, 1, none⟩ = some (.bool c.b1) := cell_keep bb3 c2_c_1
  have c3_c_2 : w3.cell? ⟨w.heap.size + 1, 2, none⟩ = some (.bool c.b2) := cell_keep bb3 c2_c_2
  have c3_c_3 : w3.cell? ⟨w.heap.size + 1, 3, none⟩ = some (.bool c.b3) := cell_keep bb3 c2_c_3
  have c3_c_4 : w3.cell? ⟨w.heap.size + 1, 4, none⟩ = some (.bool c.b4) := cell_keep bb3 c2_c_4
  have c3_c_5 : w3.cell? ⟨w.heap.size + 1, 5, none⟩ = some (.bool c.b5) := cell_keep bb3 c2_c_5
  have c3_c_6 : w3.cell? ⟨w.heap.size + 1, 6, none⟩ = some (.bool c.b6) := cell_keep bb3 c2_c_6
  have c3_c_7 : w3.cell? ⟨w.heap.size + 1, 7, none⟩ = some (.slice c.p c.hs.length c.cap) := cell_keep bb3 c2_c_7
  have l3_c : w.heap.size + 1 < w3.heap.size := by omega
  have m3_c : w.heap.size + 1 < w3.heap.size + 1 := by omega
  have HT3 := Lib.hid (HT2.out.below bb3)
  have HC3 := Lib.hid (HC2.out.below bb3)
  have HL3 := Lib.hid (HL2.out.below bb3)
  have HM3 := Lib.hid (HM2.out.below bb3)
  have HH3 := Lib.hid (HH2.out.below bb3)
  have HE3 := Lib.hid (HE2.out.below bb3)
  have BE3 := Lib.hid be3
  clear be3 bb3 hb3 BE2 c2_t_0 c2_t_1 c2_t_2 c2_t_3 c2_t_4 l2_t m2_t c2_c_0 c2_c_1 c2_c_2 c2_c_3 c2_c_4 c2_c_5 c2_c_6 c2_c_7 l2_c m2_c HT2 HC2 HL2 HM2 HH2 HE2
  go_wp2_with fail
  go_ret
  exact ⟨rfl, (by have q := BE3.out; repeat (first | exact q | refine Below.setCell ?_ (by first | (simp; done) | omega | (simp; omega)) _ | refine Below.alloc ?_ (by first | (simp; done) | omega | (simp; omega)) _ | refine below_drewN ?_ _ | refine Below.drew ?_))⟩
set_option maxRecDepth 100000 in
set_option maxHeartbeats 1600000 in
theorem bo_e1 (t : Dl.T) (c : Cal) (q1 q2 q3 : Option Addr) (cap1 cap2 cap3 : Nat) (lo mid hi : List Wh) (w : World) (ht : TAt w t) (hn : LenOK t) (hc : CalIn w c) (hl : EvAt w q1 lo) (hm : EvAt w q2 mid) (hh : EvAt w q3 hi) (he : Env w) (hs : smallB t lo = true) (hs2 : smallB t hi = true) (hln : lo.length ≤ 40) (hlh : hi.length ≤ 40) (hb : boundsS t c lo hi = (0, 0, false, 1)) :
    Calls Tryd.prog 4 #[.agg #[.int .i64 t.kd, .int .i64 t.n, .int .i64 t.ev, .bool t.bz, .slice t.p t.kids.length t.cap], .agg #[.bool c.b0, .bool c.b1, .bool c.b2, .bool c.b3, .bool c.b4, .bool c.b5, .bool c.b6, .slice c.p c.hs.length c.cap], .slice q1 lo.length cap1, .slice q2 mid.length cap2, .slice q3 hi.length cap3] w fun e w' => e = .returned (.bool true) ∧ Below w.heap.size w w' := by
  have HT0 := Lib.hid ht
  clear ht
  have HC0 := Lib.hid hc
  clear hc
  have HL0 := Lib.hid hl
  clear hl
  have HM0 := Lib.hid hm
  clear hm
  have HH0 := Lib.hid hh
  clear hh
  have HE0 := Lib.hid he
  clear he
  have HN := Lib.hid hn
  clear hn
  have HS := Lib.hid hs
  clear hs
  have HS2 := Lib.hid hs2
  clear hs2
  have HB := Lib.hid hb
  clear hb
  go_enter Tryd.func4, Tryd.ntmps4
  go_wp2_with fail
  refine (head_any _ (HE0.out.below (by repeat (first | exact Below.refl _ _ | assumption | refine below_drewN ?_ _ | refine Below.setCell ?_ (by first | (simp; done) | (simp; omega)) _ | refine Below.alloc ?_ (by first | (simp; done) | (simp; omega) | omega) _ | refine Below.drew ?_ | refine Below.trans ?_ (Below.mono (by assumption) (by first | (simp; done) | (simp; omega) | omega)))))).mono ?_
  rintro e w1 ⟨rfl, hb1⟩
  have hz1 := hb1.size
  (try simp at hz1)
  have bb1 : Below w.heap.size w w1 := (by repeat (first | exact Below.refl _ _ | assumption | refine below_drewN ?_ _ | refine Below.setCell ?_ (by first | (simp; done) | (simp; omega)) _ | refine Below.alloc ?_ (by first | (simp; done) | (simp; omega) | omega) _ | refine Below.drew ?_ | refine Below.trans ?_ (Below.mono (by assumption) (by first | (simp; done) | (simp; omega) | omega))))
  have be1 : Below w.heap.size w w1 := bb1
  have c1_t_0 : w1.cell? ⟨w.heap.size, 0, none⟩ = some (.int .i64 t.kd) := cell_keep hb1 (by go_simp)
  have c1_t_1 : w1.cell? ⟨w.heap.size, 1, none⟩ = some (.int .i64 t.n) := cell_keep hb1 (by go_simp)
  have c1_t_2 : w1.cell? ⟨w.heap.size, 2, none⟩ = some (.int .i64 t.ev) := cell_keep hb1 (by go_simp)
  have c1_t_3 : w1.cell? ⟨w.heap.size, 3, none⟩ = some (.bool t.bz) := cell_keep hb1 (by go_simp)
  have c1_t_4 : w1.cell? ⟨w.heap.size, 4, none⟩ = some (.slice t.p t.kids.length t.cap) := cell_keep hb1 (by go_simp)
  have l1_t : w.heap.size < w1.heap.size := by omega
  have m1_t : w.heap.size < w1.heap.size + 1 := by omega
  have c1_c_0 : w1.cell? ⟨w.heap.size + 1, 0, none⟩ = some (.bool c.b0) := cell_keep hb1 (by go_simp)
  have c1_c_1 : w1.cell? ⟨w.heap.size + 1, 1, none⟩ = some (.bool c.b1) := cell_keep hb1 (by go_simp)
  have c1_c_2 : w1.cell? ⟨w.heap.size + 1, 2, none⟩ = some (.bool c.b2) := cell_keep hb1 (by go_simp)
  have c1_c_3 : w1.cell? ⟨w.heap.size + 1, 3, none⟩ = some (.bool c.b3) := cell_keep hb1 (by go_simp)
  have c1_c_4 : w1.cell? ⟨w.heap.size + 1, 4, none⟩ = some (.bool c.b4) := cell_keep hb1 (by go_simp)
  have c1_c_5 : w1.cell? ⟨w.heap.size + 1, 5, none⟩ = some (.bool c.b5) := cell_keep hb1 (by go_simp)
  have c1_c_6 : w1.cell? ⟨w.heap.size + 1, 6, none⟩ = some (.bool c.b6) := cell_keep hb1 (by go_simp)
  have c1_c_7 : w1.cell? ⟨w.heap.size + 1, 7, none⟩ = some (.slice c.p c.hs.length c.cap) := cell_keep hb1 (by go_simp)
  have l1_c : w.heap.size + 1 < w1.heap.size := by omega
  have m1_c : w.heap.size + 1 < w1.heap.size + 1 := by omega
  have HT1 := Lib.hid (HT0.out.below bb1)
  have HC1 := Lib.hid (HC0.out.below bb1)
  have HL1 := Lib.hid (HL0.out.below bb1)
  have HM1 := Lib.hid (HM0.out.below bb1)
  have HH1 := Lib.hid (HH0.out.below bb1)
  have HE1 := Lib.hid (HE0.out.below bb1)
  have BE1 := Lib.hid be1
  clear be1 bb1 hb1 HT0 HC0 HL0 HM0 HH0 HE0
  go_wp2_with fail
  refine (small_any t q1 lo cap1 _ HN.out (HT1.out.below (by repeat (first | exact Below.refl _ _ | assumption | refine below_drewN ?_ _ | refine Below.setCell ?_ (by first | (simp; done) | (simp; omega)) _ | refine Below.alloc ?_ (by first | (simp; done) | (simp; omega) | omega) _ | refine Below.drew ?_ | refine Below.trans ?_ (Below.mono (by assumption) (by first | (simp; done) | (simp; omega) | omega)))))).mono ?_
  rintro e w2 ⟨rfl, hb2⟩
  rw [HS.out]
  have hz2 := hb2.size
  (try simp at hz2)
  have bb2 : Below w1.heap.size w1 w2 := (by repeat (first | exact Below.refl _ _ | assumption | refine below_drewN ?_ _ | refine Below.setCell ?_ (by first | (simp; done) | (simp; omega)) _ | refine Below.alloc ?_ (by first | (simp; done) | (simp; omega) | omega) _ | refine Below.drew ?_ | refine Below.trans ?_ (Below.mono (by assumption) (by first | (simp; done) | (simp; omega) | omega))))
  have be2 : Below w.heap.size w w2 := BE1.out.trans (bb2.mono BE1.out.size)
  have c2_t_0 : w2.cell? ⟨w.heap.size, 0, none⟩ = some (.int .i64 t.kd) := cell_keep bb2 c1_t_0
  have c2_t_1 : w2.cell? ⟨w.heap.size, 1, none⟩ = some (.int .i64 t.n) := cell_keep bb2 c1_t_1
  have c2_t_2 : w2.cell? ⟨w.heap.size, 2, none⟩ = some (.int .i64 t.ev) := cell_keep bb2 c1_t_2
  have c2_t_3 : w2.cell? ⟨w.heap.size, 3, none⟩ = some (.bool t.bz) := cell_keep bb2 c1_t_3
  have c2_t_4 : w2.cell? ⟨w.heap.size, 4, none⟩ = some (.slice t.p t.kids.length t.cap) := cell_keep bb2 c1_t_4
  have l2_t : w.heap.size < w2.heap.size := by omega
  have m2_t : w.heap.size < w2.heap.size + 1 := by omega
  have c2_c_0 : w2.cell? ⟨w.heap.size + 1, 0, none⟩ = some (.bool c.b0) := cell_keep bb2 c1_c_0
  have c2_c_1 : w2.cell? ⟨w.heap.size + 1, 1, none⟩ = some (.bool c.b1) := cell_keep bb2 c1_c_1
  have c2_c_2 : w2.cell? ⟨w.heap.size + 1, 2, none⟩ = some (.bool c.b2) := cell_keep bb2 c1_c_2
  have c2_c_3 : w2.cell? ⟨w.heap.size + 1, 3, none⟩ = some (.bool c.b3) := cell_keep bb2 c1_c_3
  have c2_c_4 : w2.cell? ⟨w.heap.size + 1, 4, none⟩ = some (.bool c.b4) := cell_keep bb2 c1_c_4
  have c2_c_5 : w2.cell? ⟨w.heap.size + 1, 5, none⟩ = some (.bool c.b5) := cell_keep bb2 c1_c_5
  have c2_c_6 : w2.cell? ⟨w.heap.size + 1, 6, none⟩ = some (.bool c.b6) := cell_keep bb2 c1_c_6
  have c2_c_7 : w2.cell? ⟨w.heap.size + 1, 7, none⟩ = some (.slice c.p c.hs.length c.cap) := cell_keep bb2 c1_c_7
  have l2_c : w.heap.size + 1 < w2.heap.size := by omega
  have m2_c : w.heap.size + 1 < w2.heap.size + 1 := by omega
  have HT2 := Lib.hid (HT1.out.below bb2)
  have HC2 := Lib.hid (HC1.out.below bb2)
  have HL2 := Lib.hid (HL1.out.below bb2)
  have HM2 := Lib.hid (HM1.out.below bb2)
  have HH2 := Lib.hid (HH1.out.below bb2)
  have HE2 := Lib.hid (HE1.out.below bb2)
  have BE2 := Lib.hid be2
  clear be2 bb2 hb2 BE1 c1_t_0 c1_t_1 c1_t_2 c1_t_3 c1_t_4 l1_t m1_t c1_c_0 c1_c_1 c1_c_2 c1_c_3 c1_c_4 c1_c_5 c1_c_6 c1_c_7 l1_c m1_c HT1 HC1 HL1 HM1 HH1 HE1
  go_wp2_with fail
  refine (small_any t q3 hi cap3 _ HN.out (HT2.out.below (by repeat (first | exact Below.refl _ _ | assumption | refine below_drewN ?_ _ | refine Below.setCell ?_ (by first | (simp; done) | (simp; omega)) _ | refine Below.alloc ?_ (by first | (simp; done) | (simp; omega) | omega) _ | refine Below.drew ?_ | refine Below.trans ?_ (Below.mono (by assumption) (by first | (simp; done) | (simp; omega) | omega)))))).mono ?_
  rintro e w3 ⟨rfl, hb3⟩
  rw [HS2.out]
  have hz3 := hb3.size
  (try simp at hz3)
  have bb3 : Below w2.heap.size w2 w3 := (by repeat (first | exact Below.refl _ _ | assumption | refine below_drewN ?_ _ | refine Below.setCell ?_ (by first | (simp; done) | (simp; omega)) _ | refine Below.alloc ?_ (by first | (simp; done) | (simp; omega) | omega) _ | refine Below.drew ?_ | refine Below.trans ?_ (Below.mono (by assumption) (by first | (simp; done) | (simp; omega) | omega))))
  have be3 : Below w.heap.size w w3 := BE2.out.trans (bb3.mono BE2.out.size)
  have c3_t_0 : w3.cell? ⟨w.heap.size, 0, none⟩ = some (.int .i64 t.kd) := cell_keep bb3 c2_t_0
  have c3_t_1 : w3.cell? ⟨w.heap.size, 1, none⟩ = some (.int .i64 t.n) := cell_keep bb3 c2_t_1
  have c3_t_2 : w3.cell? ⟨w.heap.size, 2, none⟩ = some (.int .i64 t.ev) := cell_keep bb3 c2_t_2
  have c3_t_3 : w3.cell? ⟨w.heap.size, 3, none⟩ = some (.bool t.bz) := cell_keep bb3 c2_t_3
  have c3_t_4 : w3.cell? ⟨w.heap.size, 4, none⟩ = some (.slice t.p t.kids.length t.cap) := cell_keep bb3 c2_t_4
  have l3_t : w.heap.size < w3.heap.size := by omega
  have m3_t : w.heap.size < w3.heap.size + 1 := by omega
  have c3_c_0 : w3.cell? ⟨w.heap.size + 1, 0, none⟩ = some (.bool c.b0) := cell_keep bb3 c2_c_0
  have c3_c_1 : w3.cell? ⟨w.heap.size + 1, 1, none⟩ = some (.bool c.b1) := cell_keep bb3 c2_c_1
  have c3_c_2 : w3.cell? ⟨w.heap.size + 1, 2, none⟩ = some (.bool c.b2) := cell_keep bb3 c2_c_2
  have c3_c_3 : w3.cell? ⟨w.heap.size + 1, 3, none⟩ = some (.bool c.b3) := cell_keep bb3 c2_c_3
  have c3_c_4 : w3.cell? ⟨w.heap.size + 1, 4, none⟩ = some (.bool c.b4) := cell_keep bb3 c2_c_4
  have c3_c_5 : w3.cell? ⟨w.heap.size + 1, 5, none⟩ = some (.bool c.b5) := cell_keep bb3 c2_c_5
  have c3_c_6 : w3.cell? ⟨w.heap.size + 1, 6, none⟩ = some (.bool c.b6) := cell_keep bb3 c2_c_6
  have c3_c_7 : w3.cell? ⟨w.heap.size + 1, 7, none⟩ = some (.slice c.p c.hs.length c.cap) := cell_keep bb3 c2_c_7
  have l3_c : w.heap.size + 1 < w3.heap.size := by omega
  have m3_c : w.heap.size + 1 < w3.heap.size + 1 := by omega
  have HT3 := Lib.hid (HT2.out.below bb3)
  have HC3 := Lib.hid (HC2.out.below bb3)
  have HL3 := Lib.hid (HL2.out.below bb3)
  have HM3 := Lib.hid (HM2.out.below bb3)
  have HH3 := Lib.hid (HH2.out.below bb3)
  have HE3 := Lib.hid (HE2.out.below bb3)
  have BE3 := Lib.hid be3
  clear be3 bb3 hb3 BE2 c2_t_0 c2_t_1 c2_t_2 c2_t_3 c2_t_4 l2_t m2_t c2_c_0 c2_c_1 c2_c_2 c2_c_3 c2_c_4 c2_c_5 c2_c_6 c2_c_7 l2_c m2_c HT2 HC2 HL2 HM2 HH2 HE2
  go_wp2_with fail
  refine (bounds_at t c q1 q3 cap1 cap3 lo hi _ (HT3.out.below (by repeat (first | exact Below.refl _ _ | assumption | refine below_drewN ?_ _ | refine Below.setCell ?_ (by first | (simp; done) | (simp; omega)) _ | refine Below.alloc ?_ (by first | (simp; done) | (simp; omega) | omega) _ | refine Below.drew ?_ | refine Below.trans ?_ (Below.mono (by assumption) (by first | (simp; done) | (simp; omega) | omega))))) (HC3.out.below (by repeat (first | exact Below.refl _ _ | assumption | refine below_drewN ?_ _ | refine Below.setCell ?_ (by first | (simp; done) | (simp; omega)) _ | refine Below.alloc ?_ (by first | (simp; done) | (simp; omega) | omega) _ | refine Below.drew ?_ | refine Below.trans ?_ (Below.mono (by assumption) (by first | (simp; done) | (simp; omega) | omega))))) (HL3.out.below (by repeat (first | exact Below.refl _ _ | assumption | refine below_drewN ?_ _ | refine Below.setCell ?_ (by first | (simp; done) | (simp; omega)) _ | refine Below.alloc ?_ (by first | (simp; done) | (simp; omega) | omega) _ | refine Below.drew ?_ | refine Below.trans ?_ (Below.mono (by assumption) (by first | (simp; done) | (simp; omega) | omega))))) (HH3.out.below (by repeat (first | exact Below.refl _ _ | assumption | refine below_drewN ?_ _ | refine Below.setCell ?_ (by first | (simp; done) | (simp; omega)) _ | refine Below.alloc ?_ (by first | (simp; done) | (simp; omega) | omega) _ | refine Below.drew ?_ | refine Below.trans ?_ (Below.mono (by assumption) (by first | (simp; done) | (simp; omega) | omega))))) (by omega) (by omega) (HE3.out.below (by repeat (first | exact Below.refl _ _ | assumption | refine below_drewN ?_ _ | refine Below.setCell ?_ (by first | (simp; done) | (simp; omega)) _ | refine Below.alloc ?_ (by first | (simp; done) | (simp; omega) | omega) _ | refine Below.drew ?_ | refine Below.trans ?_ (Below.mono (by assumption) (by first | (simp; done) | (simp; omega) | omega)))))).mono ?_
  rintro e w4 ⟨rfl, hb4⟩
  rw [HB.out]
  simp only [R4]
  have hz4 := hb4.size
  (try simp at hz4)
  have bb4 : Below w3.heap.size w3 w4 := (by repeat (first | exact Below.refl _ _ | assumption | refine below_drewN ?_ _ | refine Below.setCell ?_ (by first | (simp; done) | (simp; omega)) _ | refine Below.alloc ?_ (by first | (simp; done) | (simp; omega) | omega) _ | refine Below.drew ?_ | refine Below.trans ?_ (Below.mono (by assumption) (by first | (simp; done) | (simp; omega) | omega))))
  have be4 : Below w.heap.size w w4 := BE3.out.trans (bb4.mono BE3.out.size)
  have c4_t_0 : w4.cell? ⟨w.heap.size, 0, none⟩ = some (.int .i64 t.kd) := cell_keep bb4 c3_t_0
  have c4_t_1 : w4.cell? ⟨w.heap.size, 1, none⟩ = some (.int .i64 t.n) := cell_keep bb4 c3_t_1
  have c4_t_2 : w4.cell? ⟨w.heap.size, 2, none⟩ = some (.int .i64 t.ev) := cell_keep bb4 c3_t_2
  have c4_t_3 : w4.cell? ⟨w.heap.size, 3, none⟩ = some (.bool t.bz) := cell_keep bb4 c3_t_3
  have c4_t_4 : w4.cell? ⟨w.heap.size, 4, none⟩ = some (.slice t.p t.kids.length t.cap) := cell_keep bb4 c3_t_4
  have l4_t : w.heap.size < w4.heap.size := by omega
  have m4_t : w.heap.size < w4.heap.size + 1 := by omega
  have c4_c_0 : w4.cell? ⟨w.heap.size + 1, 0, none⟩ = some (.bool c.b0) := cell_keep bb4 c3_c_0
  have c4_c_1 : w4.cell? ⟨w.heap.size + 1, 1, none⟩ = some (.bool c.b1) := cell_keep bb4 c3_c_1
  have c4_c_2 : w4.cell? ⟨w.heap.size + 1, 2, none⟩ = some (.bool c.b2) := cell_keep bb4 c3_c_2
  have c4_c_3 : w4.cell? ⟨w.heap.size + 1, 3, none⟩ = some (.bool c.b3) := cell_keep bb4 c3_c_3
  have c4_c_4 : w4.cell? ⟨w.heap.size + 1, 4, none⟩ = some (.bool c.b4) := cell_keep bb4 c3_c_4
  have c4_c_5 : w4.cell? ⟨w.heap.size + 1, 5, none⟩ = some (.bool c.b5) := cell_keep bb4 c3_c_5
  have c4_c_6 : w4.cell? ⟨w.heap.size + 1, 6, none⟩ = some (.bool c.b6) := cell_keep bb4 c3_c_6
  have c4_c_7 : w4.cell? ⟨w.heap.size + 1, 7, none⟩ = some (.slice c.p c.hs.length c.cap) := cell_keep bb4 c3_c_7
  have l4_c : w.heap.size + 1 < w4.heap.size := by omega
  have m4_c : w.heap.size + 1 < w4.heap.size + 1 := by omega
  have HT4 := Lib.hid (HT3.out.below bb4)
  have HC4 := Lib.hid (HC3.out.below bb4)
  have HL4 := Lib.hid (HL3.out.below bb4)
  have HM4 := Lib.hid (HM3.out.below bb4)
  have HH4 := Lib.hid (HH3.out.below bb4)
  have HE4 := Lib.hid (HE3.out.below bb4)
  have BE4 := Lib.hid be4
  clear be4 bb4 hb4 BE3 c3_t_0 c3_t_1 c3_t_2 c3_t_3 c3_t_4 l3_t m3_t c3_c_0 c3_c_1 c3_c_2 c3_c_3 c3_c_4 c3_c_5 c3_c_6 c3_c_7 l3_c m3_c HT3 HC3 HL3 HM3 HH3 HE3
  go_wp2_with fail
  go_ret
  exact ⟨rfl, (by have q := BE4.out; repeat (first | exact q | refine Below.setCell ?_ (by first | (simp; done) | omega | (simp; omega)) _ | refine Below.alloc ?_ (by first | (simp; done) | omega | (simp; omega)) _ | refine below_drewN ?_ _ | refine Below.drew ?_))⟩
set_option maxRecDepth 100000 in
set_option maxHeartbeats 1600000 in
theorem bo_e2 (t : Dl.T) (c : Cal) (q1 q2 q3 : Option Addr) (cap1 cap2 cap3 : Nat) (lo mid hi : List Wh) (w : World) (ht : TAt w t) (hn : LenOK t) (hc : CalIn w c) (hl : EvAt w q1 lo) (hm : EvAt w q2 mid) (hh : EvAt w q3 hi) (he : Env w) (hs : smallB t lo = true) (hs2 : smallB t hi = true) (hln : lo.length ≤ 40) (hlh : hi.length ≤ 40) (hb : boundsS t c lo hi = (0, 0, false, 2)) :
    Calls Tryd.prog 4 #[.agg #[.int .i64 t.kd, .int .i64 t.n, .int .i64 t.ev, .bool t.bz, .slice t.p t.kids.length t.cap], .agg #[.bool c.b0, .bool c.b1, .bool c.b2, .bool c.b3, .bool c.b4, .bool c.b5, .bool c.b6, .slice c.p c.hs.length c.cap], .slice q1 lo.length cap1, .slice q2 mid.length cap2, .slice q3 hi.length cap3] w fun e w' => e = .returned (.bool true) ∧ Below w.heap.size w w' := by
  have HT0 := Lib.hid ht
  clear ht
  have HC0 := Lib.hid hc
  clear hc
  have HL0 := Lib.hid hl
  clear hl
  have HM0 := Lib.hid hm
  clear hm
  have HH0 := Lib.hid hh
  clear hh
  have HE0 := Lib.hid he
  clear he
  have HN := Lib.hid hn
  clear hn
  have HS := Lib.hid hs
  clear hs
  have HS2 := Lib.hid hs2
  clear hs2
  have HB := Lib.hid hb
  clear hb
  go_enter Tryd.func4, Tryd.ntmps4
  go_wp2_with fail
  refine (head_any _ (HE0.out.below (by repeat (first | exact Below.refl _ _ | assumption | refine below_drewN ?_ _ | refine Below.setCell ?_ (by first | (simp; done) | (simp; omega)) _ | refine Below.alloc ?_ (by first | (simp; done) | (simp; omega) | omega) _ | refine Below.drew ?_ | refine Below.trans ?_ (Below.mono (by assumption) (by first | (simp; done) | (simp; omega) | omega)))))).mono ?_
  rintro e w1 ⟨rfl, hb1⟩
  have hz1 := hb1.size
  (try simp at hz1)
  have bb1 : Below w.heap.size w w1 := (by repeat (first | exact Below.refl _ _ | assumption | refine below_drewN ?_ _ | refine Below.setCell ?_ (by first | (simp; done) | (simp; omega)) _ | refine Below.alloc ?_ (by first | (simp; done) | (simp; omega) | omega) _ | refine Below.drew ?_ | refine Below.trans ?_ (Below.mono (by assumption) (by first | (simp; done) | (simp; omega) | omega))))
  have be1 : Below w.heap.size w w1 := bb1
  have c1_t_0 : w1.cell? ⟨w.heap.size, 0, none⟩ = some (.int .i64 t.kd) := cell_keep hb1 (by go_simp)
  have c1_t_1 : w1.cell? ⟨w.heap.size, 1, none⟩ = some (.int .i64 t.n) := cell_keep hb1 (by go_simp)
  have c1_t_2 : w1.cell? ⟨w.heap.size, 2, none⟩ = some (.int .i64 t.ev) := cell_keep hb1 (by go_simp)
  have c1_t_3 : w1.cell? ⟨w.heap.size, 3, none⟩ = some (.bool t.bz) := cell_keep hb1 (by go_simp)
  have c1_t_4 : w1.cell? ⟨w.heap.size, 4, none⟩ = some (.slice t.p t.kids.length t.cap) := cell_keep hb1 (by go_simp)
  have l1_t : w.heap.size < w1.heap.size := by omega
  have m1_t : w.heap.size < w1.heap.size + 1 := by omega
  have c1_c_0 : w1.cell? ⟨w.heap.size + 1, 0, none⟩ = some (.bool c.b0) := cell_keep hb1 (by go_simp)
  have c1_c_1 : w1.cell? ⟨w.heap.size + 1, 1, none⟩ = some (.bool c.b1) := cell_keep hb1 (by go_simp)
  have c1_c_2 : w1.cell? ⟨w.heap.size + 1, 2, none⟩ = some (.bool c.b2) := cell_keep hb1 (by go_simp)
  have c1_c_3 : w1.cell? ⟨w.heap.size + 1, 3, none⟩ = some (.bool c.b3) := cell_keep hb1 (by go_simp)
  have c1_c_4 : w1.cell? ⟨w.heap.size + 1, 4, none⟩ = some (.bool c.b4) := cell_keep hb1 (by go_simp)
  have c1_c_5 : w1.cell? ⟨w.heap.size + 1, 5, none⟩ = some (.bool c.b5) := cell_keep hb1 (by go_simp)
  have c1_c_6 : w1.cell? ⟨w.heap.size + 1, 6, none⟩ = some (.bool c.b6) := cell_keep hb1 (by go_simp)
  have c1_c_7 : w1.cell? ⟨w.heap.size + 1, 7, none⟩ = some (.slice c.p c.hs.length c.cap) := cell_keep hb1 (by go_simp)
  have l1_c : w.heap.size + 1 < w1.heap.size := by omega
  have m1_c : w.heap.size + 1 < w1.heap.size + 1 := by omega
  have HT1 := Lib.hid (HT0.out.below bb1)
  have HC1 := Lib.hid (HC0.out.below bb1)
  have HL1 := Lib.hid (HL0.out.below bb1)
  have HM1 := Lib.hid (HM0.out.below bb1)
  have HH1 := Lib.hid (HH0.out.below bb1)
  have HE1 := Lib.hid (HE0.out.below bb1)
  have BE1 := Lib.hid be1
  clear be1 bb1 hb1 HT0 HC0 HL0 HM0 HH0 HE0
  go_wp2_with fail
  refine (small_any t q1 lo cap1 _ HN.out (HT1.out.below (by repeat (first | exact Below.refl _ _ | assumption | refine below_drewN ?_ _ | refine Below.setCell ?_ (by first | (simp; done) | (simp; omega)) _ | refine Below.alloc ?_ (by first | (simp; done) | (simp; omega) | omega) _ | refine Below.drew ?_ | refine Below.trans ?_ (Below.mono (by assumption) (by first | (simp; done) | (simp; omega) | omega)))))).mono ?_
  rintro e w2 ⟨rfl, hb2⟩
  rw [HS.out]
  have hz2 := hb2.size
  (try simp at hz2)
  have bb2 : Below w1.heap.size w1 w2 := (by repeat (first | exact Below.refl _ _ | assumption | refine below_drewN ?_ _ | refine Below.setCell ?_ (by first | (simp; done) | (simp; omega)) _ | refine Below.alloc ?_ (by first | (simp; done) | (simp; omega) | omega) _ | refine Below.drew ?_ | refine Below.trans ?_ (Below.mono (by assumption) (by first | (simp; done) | (simp; omega) | omega))))
  have be2 : Below w.heap.size w w2 := BE1.out.trans (bb2.mono BE1.out.size)
  have c2_t_0 : w2.cell? ⟨w.heap.size, 0, none⟩ = some (.int .i64 t.kd) := cell_keep bb2 c1_t_0
  have c2_t_1 : w2.cell? ⟨w.heap.size, 1, none⟩ = some (.int .i64 t.n) := cell_keep bb2 c1_t_1
  have c2_t_2 : w2.cell? ⟨w.heap.size, 2, none⟩ = some (.int .i64 t.ev) := cell_keep bb2 c1_t_2
  have c2_t_3 : w2.cell? ⟨w.heap.size, 3, none⟩ = some (.bool t.bz) := cell_keep bb2 c1_t_3
  have c2_t_4 : w2.cell? ⟨w.heap.size, 4, none⟩ = some (.slice t.p t.kids.length t.cap) := cell_keep bb2 c1_t_4
  have l2_t : w.heap.size < w2.heap.size := by omega
  have m2_t : w.heap.size < w2.heap.size + 1 := by omega
  have c2_c_0 : w2.cell? ⟨w.heap.size + 1, 0, none⟩ = some (.bool c.b0) := cell_keep bb2 c1_c_0
  have c2_c_1 : w2.cell? ⟨w.heap.size + 1, 1, none⟩ = some (.bool c.b1) := cell_keep bb2 c1_c_1
  have c2_c_2 : w2.cell? ⟨w.heap.size + 1, 2, none⟩ = some (.bool c.b2) := cell_keep bb2 c1_c_2
  have c2_c_3 : w2.cell? ⟨w.heap.size + 1, 3, none⟩ = some (.bool c.b3) := cell_keep bb2 c1_c_3
  have c2_c_4 : w2.cell? ⟨w.heap.size + 1, 4, none⟩ = some (.bool c.b4) := cell_keep bb2 c1_c_4
  have c2_c_5 : w2.cell? ⟨w.heap.size + 1, 5, none⟩ = some (.bool c.b5) := cell_keep bb2 c1_c_5
  have c2_c_6 : w2.cell? ⟨w.heap.size + 1, 6, none⟩ = some (.bool c.b6) := cell_keep bb2 c1_c_6
  have c2_c_7 : w2.cell? ⟨w.heap.size + 1, 7, none⟩ = some (.slice c.p c.hs.length c.cap) := cell_keep bb2 c1_c_7
  have l2_c : w.heap.size + 1 < w2.heap.size := by omega
  have m2_c : w.heap.size + 1 < w2.heap.size + 1 := by omega
  have HT2 := Lib.hid (HT1.out.below bb2)
  have HC2 := Lib.hid (HC1.out.below bb2)
  have HL2 := Lib.hid (HL1.out.below bb2)
  have HM2 := Lib.hid (HM1.out.below bb2)
  have HH2 := Lib.hid (HH1.out.below bb2)
  have HE2 := Lib.hid (HE1.out.below bb2)
  have BE2 := Lib.hid be2
  clear be2 bb2 hb2 BE1 c1_t_0 c1_t_1 c1_t_2 c1_t_3 c1_t_4 l1_t m1_t c1_c_0 c1_c_1 c1_c_2 c1_c_3 c1_c_4 c1_c_5 c1_c_6 c1_c_7 l1_c m1_c HT1 HC1 HL1 HM1 HH1 HE1
  go_wp2_with fail
  refine (small_any t q3 hi cap3 _ HN.out (HT2.out.below (by repeat (first | exact Below.refl _ _ | assumption | refine below_drewN ?_ _ | refine Below.setCell ?_ (by first | (simp; done) | (simp; omega)) _ | refine Below.alloc ?_ (by first | (simp; done) | (simp; omega) | omega) _ | refine Below.drew ?_ | refine Below.trans ?_ (Below.mono (by assumption) (by first | (simp; done) | (simp; omega) | omega)))))).mono ?_
  rintro e w3 ⟨rfl, hb3⟩
  rw [HS2.out]
  have hz3 := hb3.size
  (try simp at hz3)
  have bb3 : Below w2.heap.size w2 w3 := (by repeat (first | exact Below.refl _ _ | assumption | refine below_drewN ?_ _ | refine Below.setCell ?_ (by first | (simp; done) | (simp; omega)) _ | refine Below.alloc ?_ (by first | (simp; done) | (simp; omega) | omega) _ | refine Below.drew ?_ | refine Below.trans ?_ (Below.mono (by assumption) (by first | (simp; done) | (simp; omega) | omega))))
  have be3 : Below w.heap.size w w3 := BE2.out.trans (bb3.mono BE2.out.size)
  have c3_t_0 : w3.cell? ⟨w.heap.size, 0, none⟩ = some (.int .i64 t.kd) := cell_keep bb3 c2_t_0
  have c3_t_1 : w3.cell? ⟨w.heap.size, 1, none⟩ = some (.int .i64 t.n) := cell_keep bb3 c2_t_1
  have c3_t_2 : w3.cell? ⟨w.heap.size, 2, none⟩ = some (.int .i64 t.ev) := cell_keep bb3 c2_t_2
  have c3_t_3 : w3.cell? ⟨w.heap.size, 3, none⟩ = some (.bool t.bz) := cell_keep bb3 c2_t_3
  have c3_t_4 : w3.cell? ⟨w.heap.size, 4, none⟩ = some (.slice t.p t.kids.length t.cap) := cell_keep bb3 c2_t_4
  have l3_t : w.heap.size < w3.heap.size := by omega
  have m3_t : w.heap.size < w3.heap.size + 1 := by omega
  have c3_c_0 : w3.cell? ⟨w.heap.size + 1, 0, none⟩ = some (.bool c.b0) := cell_keep bb3 c2_c_0
  have c3_c_1 : w3.cell? ⟨w.heap.size + 1, 1, none⟩ = some (.bool c.b1) := cell_keep bb3 c2_c_1
  have c3_c_2 : w3.cell? ⟨w.heap.size + 1, 2, none⟩ = some (.bool c.b2) := cell_keep bb3 c2_c_2
  have c3_c_3 : w3.cell? ⟨w.heap.size + 1, 3, none⟩ = some (.bool c.b3) := cell_keep bb3 c2_c_3
  have c3_c_4 : w3.cell? ⟨w.heap.size + 1, 4, none⟩ = some (.bool c.b4) := cell_keep bb3 c2_c_4
  have c3_c_5 : w3.cell? ⟨w.heap.size + 1, 5, none⟩ = some (.bool c.b5) := cell_keep bb3 c2_c_5
  have c3_c_6 : w3.cell? ⟨w.heap.size + 1, 6, none⟩ = some (.bool c.b6) := cell_keep bb3 c2_c_6
  have c3_c_7 : w3.cell? ⟨w.heap.size + 1, 7, none⟩ = some (.slice c.p c.hs.length c.cap) := cell_keep bb3 c2_c_7
  have l3_c : w.heap.size + 1 < w3.heap.size := by omega
  have m3_c : w.heap.size + 1 < w3.heap.size + 1 := by omega
  have HT3 := Lib.hid (HT2.out.below bb3)
  have HC3 := Lib.hid (HC2.out.below bb3)
  have HL3 := Lib.hid (HL2.out.below bb3)
  have HM3 := Lib.hid (HM2.out.below bb3)
  have HH3 := Lib.hid (HH2.out.below bb3)
  have HE3 := Lib.hid (HE2.out.below bb3)
  have BE3 := Lib.hid be3
  clear be3 bb3 hb3 BE2 c2_t_0 c2_t_1 c2_t_2 c2_t_3 c2_t_4 l2_t m2_t c2_c_0 c2_c_1 c2_c_2 c2_c_3 c2_c_4 c2_c_5 c2_c_6 c2_c_7 l2_c m2_c HT2 HC2 HL2 HM2 HH2 HE2
  go_wp2_with fail
  refine (bounds_at t c q1 q3 cap1 cap3 lo hi _ (HT3.out.below (by repeat (first | exact Below.refl _ _ | assumption | refine below_drewN ?_ _ | refine Below.setCell ?_ (by first | (simp; done) | (simp; omega)) _ | refine Below.alloc ?_ (by first | (simp; done) | (simp; omega) | omega) _ | refine Below.drew ?_ | refine Below.trans ?_ (Below.mono (by assumption) (by first | (simp; done) | (simp; omega) | omega))))) (HC3.out.below (by repeat (first | exact Below.refl _ _ | assumption | refine below_drewN ?_ _ | refine Below.setCell ?_ (by first | (simp; done) | (simp; omega)) _ | refine Below.alloc ?_ (by first | (simp; done) | (simp; omega) | omega) _ | refine Below.drew ?_ | refine Below.trans ?_ (Below.mono (by assumption) (by first | (simp; done) | (simp; omega) | omega))))) (HL3.out.below (by repeat (first | exact Below.refl _ _ | assumption | refine below_drewN ?_ _ | refine Below.setCell ?_ (by first | (simp; done) | (simp; omega)) _ | refine Below.alloc ?_ (by first | (simp; done) | (simp; omega) | omega) _ | refine Below.drew ?_ | refine Below.trans ?_ (Below.mono (by assumption) (by first | (simp; done) | (simp; omega) | omega))))) (HH3.out.below (by repeat (first | exact Below.refl _ _ | assumption | refine below_drewN ?_ _ | refine Below.setCell ?_ (by first | (simp; done) | (simp; omega)) _ | refine Below.alloc ?_ (by first | (simp; done) | (simp; omega) | omega) _ | refine Below.drew ?_ | refine Below.trans ?_ (Below.mono (by assumption) (by first | (simp; done) | (simp; omega) | omega))))) (by omega) (by omega) (HE3.out.below (by repeat (first | exact Below.refl _ _ | assumption | refine below_drewN ?_ _ | refine Below.setCell ?_ (by first | (simp; done) | (simp; omega)) _ | refine Below.alloc ?_ (by first | (simp; done) | (simp; omega) | omega) _ | refine Below.drew ?_ | refine Below.trans ?_ (Below.mono (by assumption) (by first | (simp; done) | (simp; omega) | omega)))))).mono ?_
  rintro e w4 ⟨rfl, hb4⟩
  rw [HB.out]
  simp only [R4]
  have hz4 := hb4.size
  (try simp at hz4)
  have bb4 : Below w3.heap.size w3 w4 := (by repeat (first | exact Below.refl _ _ | assumption | refine below_drewN ?_ _ | refine Below.setCell ?_ (by first | (simp; done) | (simp; omega)) _ | refine Below.alloc ?_ (by first | (simp; done) | (simp; omega) | omega) _ | refine Below.drew ?_ | refine Below.trans ?_ (Below.mono (by assumption) (by first | (simp; done) | (simp; omega) | omega))))
  have be4 : Below w.heap.size w w4 := BE3.out.trans (bb4.mono BE3.out.size)
  have c4_t_0 : w4.cell? ⟨w.heap.size, 0, none⟩ = some (.int .i64 t.kd) := cell_keep bb4 c3_t_0
  have c4_t_1 : w4.cell? ⟨w.heap.size, 1, none⟩ = some (.int .i64 t.n) := cell_keep bb4 c3_t_1
  have c4_t_2 : w4.cell? ⟨w.heap.size, 2, none⟩ = some (.int .i64 t.ev) := cell_keep bb4 c3_t_2
  have c4_t_3 : w4.cell? ⟨w.heap.size, 3, none⟩ = some (.bool t.bz) := cell_keep bb4 c3_t_3
  have c4_t_4 : w4.cell? ⟨w.heap.size, 4, none⟩ = some (.slice t.p t.kids.length t.cap) := cell_keep bb4 c3_t_4
  have l4_t : w.heap.size < w4.heap.size := by omega
  have m4_t : w.heap.size < w4.heap.size + 1 := by omega
  have c4_c_0 : w4.cell? ⟨w.heap.size + 1, 0, none⟩ = some (.bool c.b0) := cell_keep bb4 c3_c_0
  have c4_c_1 : w4.cell? ⟨w.heap.size + 1, 1, none⟩ = some (.bool c.b1) := cell_keep bb4 c3_c_1
  have c4_c_2 : w4.cell? ⟨w.heap.size + 1, 2, none⟩ = some (.bool c.b2) := cell_keep bb4 c3_c_2
  have c4_c_3 : w4.cell? ⟨w.heap.size + 1, 3, none⟩ = some (.bool c.b3) := cell_keep bb4 c3_c_3
  have c4_c_4 : w4.cell? ⟨w.heap.size + 1, 4, none⟩ = some (.bool c.b4) := cell_keep bb4 c3_c_4
  have c4_c_5 : w4.cell? ⟨w.heap.size + 1, 5, none⟩ = some (.bool c.b5) := cell_keep bb4 c3_c_5
  have c4_c_6 : w4.cell? ⟨w.heap.size + 1, 6, none⟩ = some (.bool c.b6) := cell_keep bb4 c3_c_6
  have c4_c_7 : w4.cell? ⟨w.heap.size + 1, 7, none⟩ = some (.slice c.p c.hs.length c.cap) := cell_keep bb4 c3_c_7
  have l4_c : w.heap.size + 1 < w4.heap.size := by omega
  have m4_c : w.heap.size + 1 < w4.heap.size + 1 := by omega
  have HT4 := Lib.hid (HT3.out.below bb4)
  have HC4 := Lib.hid (HC3.out.below bb4)
  have HL4 := Lib.hid (HL3.out.below bb4)
  have HM4 := Lib.hid (HM3.out.below bb4)
  have HH4 := Lib.hid (HH3.out.below bb4)
  have HE4 := Lib.hid (HE3.out.below bb4)
  have BE4 := Lib.hid be4
  clear be4 bb4 hb4 BE3 c3_t_0 c3_t_1 c3_t_2 c3_t_3 c3_t_4 l3_t m3_t c3_c_0 c3_c_1 c3_c_2 c3_c_3 c3_c_4 c3_c_5 c3_c_6 c3_c_7 l3_c m3_c HT3 HC3 HL3 HM3 HH3 HE3
  go_wp2_with fail
  go_ret
  exact ⟨rfl, (by have q := BE4.out; repeat (first | exact q | refine Below.setCell ?_ (by first | (simp; done) | omega | (simp; omega)) _ | refine Below.alloc ?_ (by first | (simp; done) | omega | (simp; omega)) _ | refine below_drewN ?_ _ | refine Below.drew ?_))⟩
set_option maxRecDepth 100000 in
set_option maxHeartbeats 1600000 in
theorem bo_u (t : Dl.T) (c : Cal) (q1 q2 q3 : Option Addr) (cap1 cap2 cap3 : Nat) (lo mid hi : List Wh) (w : World) (ht : TAt w t) (hn : LenOK t) (hc : CalIn w c) (hl : EvAt w q1 lo) (hm : EvAt w q2 mid) (hh : EvAt w q3 hi) (he : Env w) (hs : smallB t lo = true) (hs2 : smallB t hi = true) (hln : lo.length ≤ 40) (hlh : hi.length ≤ 40) (hb : boundsS t c lo hi = (0, 0, false, 0)) :
    Calls Tryd.prog 4 #[.agg #[.int .i64 t.kd, .int .i64 t.n, .int .i64 t.ev, .bool t.bz, .slice t.p t.kids.length t.cap], .agg #[.bool c.b0, .bool c.b1, .bool c.b2, .bool c.b3, .bool c.b4, .bool c.b5, .bool c.b6, .slice c.p c.hs.length c.cap], .slice q1 lo.length cap1, .slice q2 mid.length cap2, .slice q3 hi.length cap3] w fun e w' => e = .returned (.bool true) ∧ Below w.heap.size w w' := by
  have HT0 := Lib.hid ht
  clear ht
  have HC0 := Lib.hid hc
  clear hc
  have HL0 := Lib.hid hl
  clear hl
  have HM0 := Lib.hid hm
  clear hm
  have HH0 := Lib.hid hh
  clear hh
  have HE0 := Lib.hid he
  clear he
  have HN := Lib.hid hn
  clear hn
  have HS := Lib.hid hs
  clear hs
  have HS2 := Lib.hid hs2
  clear hs2
  have HB := Lib.hid hb
  clear hb
  go_enter Tryd.func4, Tryd.ntmps4
  go_wp2_with fail
  refine (head_any _ (HE0.out.below (by repeat (first | exact Below.refl _ _ | assumption | refine below_drewN ?_ _ | refine Below.setCell ?_ (by first | (simp; done) | (simp; omega)) _ | refine Below.alloc ?_ (by first | (simp; done) | (simp; omega) | omega) _ | refine Below.drew ?_ | refine Below.trans ?_ (Below.mono (by assumption) (by first | (simp; done) | (simp; omega) | omega)))))).mono ?_
  rintro e w1 ⟨rfl, hb1⟩
  have hz1 := hb1.size
  (try simp at hz1)
  have bb1 : Below w.heap.size w w1 := (by repeat (first | exact Below.refl _ _ | assumption | refine below_drewN ?_ _ | refine Below.setCell ?_ (by first | (simp; done) | (simp; omega)) _ | refine Below.alloc ?_ (by first | (simp; done) | (simp; omega) | omega) _ | refine Below.drew ?_ | refine Below.trans ?_ (Below.mono (by assumption) (by first | (simp; done) | (simp; omega) | omega))))
  have be1 : Below w.heap.size w w1 := bb1
  have c1_t_0 : w1.cell? ⟨w.heap.size, 0, none⟩ = some (.int .i64 t.kd) := cell_keep hb1 (by go_simp)
  have c1_t_1 : w1.cell? ⟨w.heap.size, 1, none⟩ = some (.int .i64 t.n) := cell_keep hb1 (by go_simp)
  have c1_t_2 : w1.cell? ⟨w.heap.size, 2, none⟩ = some (.int .i64 t.ev) := cell_keep hb1 (by go_simp)
  have c1_t_3 : w1.cell? ⟨w.heap.size, 3, none⟩ = some (.bool t.bz) := cell_keep hb1 (by go_simp)
  have c1_t_4 : w1.cell? ⟨w.heap.size, 4, none⟩ = some (.slice t.p t.kids.length t.cap) := cell_keep hb1 (by go_simp)
  have l1_t : w.heap.size < w1.heap.size := by omega
  have m1_t : w.heap.size < w1.heap.size + 1 := by omega
  have c1_c_0 : w1.cell? ⟨w.heap.size + 1, 0, none⟩ = some (.bool c.b0) := cell_keep hb1 (by go_simp)
  have c1_c_1 : w1.cell? ⟨w.heap.size + 1, 1, none⟩ = some (.bool c.b1) := cell_keep hb1 (by go_simp)
  have c1_c_2 : w1.cell? ⟨w.heap.size + 1, 2, none⟩ = some (.bool c.b2) := cell_keep hb1 (by go_simp)
  have c1_c_3 : w1.cell? ⟨w.heap.size + 1, 3, none⟩ = some (.bool c.b3) := cell_keep hb1 (by go_simp)
  have c1_c_4 : w1.cell? ⟨w.heap.size + 1, 4, none⟩ = some (.bool c.b4) := cell_keep hb1 (by go_simp)
  have c1_c_5 : w1.cell? ⟨w.heap.size + 1, 5, none⟩ = some (.bool c.b5) := cell_keep hb1 (by go_simp)
  have c1_c_6 : w1.cell? ⟨w.heap.size + 1, 6, none⟩ = some (.bool c.b6) := cell_keep hb1 (by go_simp)
  have c1_c_7 : w1.cell? ⟨w.heap.size + 1, 7, none⟩ = some (.slice c.p c.hs.length c.cap) := cell_keep hb1 (by go_simp)
  have l1_c : w.heap.size + 1 < w1.heap.size := by omega
  have m1_c : w.heap.size + 1 < w1.heap.size + 1 := by omega
  have HT1 := Lib.hid (HT0.out.below bb1)
  have HC1 := Lib.hid (HC0.out.below bb1)
  have HL1 := Lib.hid (HL0.out.below bb1)
  have HM1 := Lib.hid (HM0.out.below bb1)
  have HH1 := Lib.hid (HH0.out.below bb1)
  have HE1 := Lib.hid (HE0.out.below bb1)
  have BE1 := Lib.hid be1
  clear be1 bb1 hb1 HT0 HC0 HL0 HM0 HH0 HE0
  go_wp2_with fail
  refine (small_any t q1 lo cap1 _ HN.out (HT1.out.below (by repeat (first | exact Below.refl _ _ | assumption | refine below_drewN ?_ _ | refine Below.setCell ?_ (by first | (simp; done) | (simp; omega)) _ | refine Below.alloc ?_ (by first | (simp; done) | (simp; omega) | omega) _ | refine Below.drew ?_ | refine Below.trans ?_ (Below.mono (by assumption) (by first | (simp; done) | (simp; omega) | omega)))))).mono ?_
  rintro e w2 ⟨rfl, hb2⟩
  rw [HS.out]
  have hz2 := hb2.size
  (try simp at hz2)
  have bb2 : Below w1.heap.size w1 w2 := (by repeat (first | exact Below.refl _ _ | assumption | refine below_drewN ?_ _ | refine Below.setCell ?_ (by first | (simp; done) | (simp; omega)) _ | refine Below.alloc ?_ (by first | (simp; done) | (simp; omega) | omega) _ | refine Below.drew ?_ | refine Below.trans ?_ (Below.mono (by assumption) (by first | (simp; done) | (simp; omega) | omega))))
  have be2 : Below w.heap.size w w2 := BE1.out.trans (bb2.mono BE1.out.size)
  have c2_t_0 : w2.cell? ⟨w.heap.size, 0, none⟩ = some (.int .i64 t.kd) := cell_keep bb2 c1_t_0
  have c2_t_1 : w2.cell? ⟨w.heap.size, 1, none⟩ = some (.int .i64 t.n) := cell_keep bb2 c1_t_1
  have c2_t_2 : w2.cell? ⟨w.heap.size, 2, none⟩ = some (.int .i64 t.ev) := cell_keep bb2 c1_t_2
  have c2_t_3 : w2.cell? ⟨w.heap.size, 3, none⟩ = some (.bool t.bz) := cell_keep bb2 c1_t_3
  have c2_t_4 : w2.cell? ⟨w.heap.size, 4, none⟩ = some (.slice t.p t.kids.length t.cap) := cell_keep bb2 c1_t_4
  have l2_t : w.heap.size < w2.heap.size := by omega
  have m2_t : w.heap.size < w2.heap.size + 1 := by omega
  have c2_c_0 : w2.cell? ⟨w.heap.size + 1, 0, none⟩ = some (.bool c.b0) := cell_keep bb2 c1_c_0
  have c2_c_1 : w2.cell? ⟨w.heap.size + 1, 1, none⟩ = some (.bool c.b1) := cell_keep bb2 c1_c_1
  have c2_c_2 : w2.cell? ⟨w.heap.size + 1, 2, none⟩ = some (.bool c.b2) := cell_keep bb2 c1_c_2
  have c2_c_3 : w2.cell? ⟨w.heap.size + 1, 3, none⟩ = some (.bool c.b3) := cell_keep bb2 c1_c_3
  have c2_c_4 : w2.cell? ⟨w.heap.size + 1, 4, none⟩ = some (.bool c.b4) := cell_keep bb2 c1_c_4
  have c2_c_5 : w2.cell? ⟨w.heap.size + 1, 5, none⟩ = some (.bool c.b5) := cell_keep bb2 c1_c_5
  have c2_c_6 : w2.cell? ⟨w.heap.size + 1, 6, none⟩ = some (.bool c.b6) := cell_keep bb2 c1_c_6
  have c2_c_7 : w2.cell? ⟨w.heap.size + 1, 7, none⟩ = some (.slice c.p c.hs.length c.cap) := cell_keep bb2 c1_c_7
  have l2_c : w.heap.size + 1 < w2.heap.size := by omega
  have m2_c : w.heap.size + 1 < w2.heap.size + 1 := by omega
  have HT2 := Lib.hid (HT1.out.below bb2)
  have HC2 := Lib.hid (HC1.out.below bb2)
  have HL2 := Lib.hid (HL1.out.below bb2)
  have HM2 := Lib.hid (HM1.out.below bb2)
  have HH2 := Lib.hid (HH1.out.below bb2)
  have HE2 := Lib.hid (HE1.out.below bb2)
  have BE2 := Lib.hid be2
  clear be2 bb2 hb2 BE1 c1_t_0 c1_t_1 c1_t_2 c1_t_3 c1_t_4 l1_t m1_t c1_c_0 c1_c_1 c1_c_2 c1_c_3 c1_c_4 c1_c_5 c1_c_6 c1_c_7 l1_c m1_c HT1 HC1 HL1 HM1 HH1 HE1
  go_wp2_with fail
  refine (small_any t q3 hi cap3 _ HN.out (HT2.out.below (by repeat (first | exact Below.refl _ _ | assumption | refine below_drewN ?_ _ | refine Below.setCell ?_ (by first | (simp; done) | (simp; omega)) _ | refine Below.alloc ?_ (by first | (simp; done) | (simp; omega) | omega) _ | refine Below.drew ?_ | refine Below.trans ?_ (Below.mono (by assumption) (by first | (simp; done) | (simp; omega) | omega)))))).mono ?_
  rintro e w3 ⟨rfl, hb3⟩
  rw [HS2.out]
  have hz3 := hb3.size
  (try simp at hz3)
  have bb3 : Below w2.heap.size w2 w3 := (by repeat (first | exact Below.refl _ _ | assumption | refine below_drewN ?_ _ | refine Below.setCell ?_ (by first | (simp; done) | (simp; omega)) _ | refine Below.alloc ?_ (by first | (simp; done) | (simp; omega) | omega) _ | refine Below.drew ?_ | refine Below.trans ?_ (Below.mono (by assumption) (by first | (simp; done) | (simp; omega) | omega))))
  have be3 : Below w.heap.size w w3 := BE2.out.trans (bb3.mono BE2.out.size)
  have c3_t_0 : w3.cell? ⟨w.heap.size, 0, none⟩ = some (.int .i64 t.kd) := cell_keep bb3 c2_t_0
  have c3_t_1 : w3.cell? ⟨w.heap.size, 1, none⟩ = some (.int .i64 t.n) := cell_keep bb3 c2_t_1
  have c3_t_2 : w3.cell? ⟨w.heap.size, 2, none⟩ = some (.int .i64 t.ev) := cell_keep bb3 c2_t_2
  have c3_t_3 : w3.cell? ⟨w.heap.size, 3, none⟩ = some (.bool t.bz) := cell_keep bb3 c2_t_3
  have c3_t_4 : w3.cell? ⟨w.heap.size, 4, none⟩ = some (.slice t.p t.kids.length t.cap) := cell_keep bb3 c2_t_4
  have l3_t : w.heap.size < w3.heap.size := by omega
  have m3_t : w.heap.size < w3.heap.size + 1 := by omega
  have c3_c_0 : w3.cell? ⟨w.heap.size + 1, 0, none⟩ = some (.bool c.b0) := cell_keep bb3 c2_c_0
  have c3_c_1 : w3.cell? ⟨w.heap.size + 1, 1, none⟩ = some (.bool c.b1) := cell_keep bb3 c2_c_1
  have c3_c_2 : w3.cell? ⟨w.heap.size + 1, 2, none⟩ = some (.bool c.b2) := cell_keep bb3 c2_c_2
  have c3_c_3 : w3.cell? ⟨w.heap.size + 1, 3, none⟩ = some (.bool c.b3) := cell_keep bb3 c2_c_3
  have c3_c_4 : w3.cell? ⟨w.heap.size + 1, 4, none⟩ = some (.bool c.b4) := cell_keep bb3 c2_c_4
  have c3_c_5 : w3.cell? ⟨w.heap.size + 1, 5, none⟩ = some (.bool c.b5) := cell_keep bb3 c2_c_5
  have c3_c_6 : w3.cell? ⟨w.heap.size + 1, 6, none⟩ = some (.bool c.b6) := cell_keep bb3 c2_c_6
  have c3_c_7 : w3.cell? ⟨w.heap.size + 1, 7, none⟩ = some (.slice c.p c.hs.length c.cap) := cell_keep bb3 c2_c_7
  have l3_c : w.heap.size + 1 < w3.heap.size := by omega
  have m3_c : w.heap.size + 1 < w3.heap.size + 1 := by omega
  have HT3 := Lib.hid (HT2.out.below bb3)
  have HC3 := Lib.hid (HC2.out.below bb3)
  have HL3 := Lib.hid (HL2.out.below bb3)
  have HM3 := Lib.hid (HM2.out.below bb3)
  have HH3 := Lib.hid (HH2.out.below bb3)
  have HE3 := Lib.hid (HE2.out.below bb3)
  have BE3 := Lib.hid be3
  clear be3 bb3 hb3 BE2 c2_t_0 c2_t_1 c2_t_2 c2_t_3 c2_t_4 l2_t m2_t c2_c_0 c2_c_1 c2_c_2 c2_c_3 c2_c_4 c2_c_5 c2_c_6 c2_c_7 l2_c m2_c HT2 HC2 HL2 HM2 HH2 HE2
  go_wp2_with fail
  refine (bounds_at t c q1 q3 cap1 cap3 lo hi _ (HT3.out.below (by repeat (first | exact Below.refl _ _ | assumption | refine below_drewN ?_ _ | refine Below.setCell ?_ (by first | (simp; done) | (simp; omega)) _ | refine Below.alloc ?_ (by first | (simp; done) | (simp; omega) | omega) _ | refine Below.drew ?_ | refine Below.trans ?_ (Below.mono (by assumption) (by first | (simp; done) | (simp; omega) | omega))))) (HC3.out.below (by repeat (first | exact Below.refl _ _ | assumption | refine below_drewN ?_ _ | refine Below.setCell ?_ (by first | (simp; done) | (simp; omega)) _ | refine Below.alloc ?_ (by first | (simp; done) | (simp; omega) | omega) _ | refine Below.drew ?_ | refine Below.trans ?_ (Below.mono (by assumption) (by first | (simp; done) | (simp; omega) | omega))))) (HL3.out.below (by repeat (first | exact Below.refl _ _ | assumption | refine below_drewN ?_ _ | refine Below.setCell ?_ (by first | (simp; done) | (simp; omega)) _ | refine Below.alloc ?_ (by first | (simp; done) | (simp; omega) | omega) _ | refine Below.drew ?_ | refine Below.trans ?_ (Below.mono (by assumption) (by first | (simp; done) | (simp; omega) | omega))))) (HH3.out.below (by repeat (first | exact Below.refl _ _ | assumption | refine below_drewN ?_ _ | refine Below.setCell ?_ (by first | (simp; done) | (simp; omega)) _ | refine Below.alloc ?_ (by first | (simp; done) | (simp; omega) | omega) _ | refine Below.drew ?_ | refine Below.trans ?_ (Below.mono (by assumption) (by first | (simp; done) | (simp; omega) | omega))))) (by omega) (by omega) (HE3.out.below (by repeat (first | exact Below.refl _ _ | assumption | refine below_drewN ?_ _ | refine Below.setCell ?_ (by first | (simp; done) | (simp; omega)) _ | refine Below.alloc ?_ (by first | (simp; done) | (simp; omega) | omega) _ | refine Below.drew ?_ | refine Below.trans ?_ (Below.mono (by assumption) (by first | (simp; done) | (simp; omega) | omega)))))).mono ?_
  rintro e w4 ⟨rfl, hb4⟩
  rw [HB.out]
  simp only [R4]
  have hz4 := hb4.size
  (try simp at hz4)
  have bb4 : Below w3.heap.size w3 w4 := (by repeat (first | exact Below.refl _ _ | assumption | refine below_drewN ?_ _ | refine Below.setCell ?_ (by first | (simp; done) | (simp; omega)) _ | refine Below.alloc ?_ (by first | (simp; done) | (simp; omega) | omega) _ | refine Below.drew ?_ | refine Below.trans ?_ (Below.mono (by assumption) (by first | (simp; done) | (simp; omega) | omega))))
  have be4 : Below w.heap.size w w4 := BE3.out.trans (bb4.mono BE3.out.size)
  have c4_t_0 : w4.cell? ⟨w.heap.size, 0, none⟩ = some (.int .i64 t.kd) := cell_keep bb4 c3_t_0
  have c4_t_1 : w4.cell? ⟨w.heap.size, 1, none⟩ = some (.int .i64 t.n) := cell_keep bb4 c3_t_1
  have c4_t_2 : w4.cell? ⟨w.heap.size, 2, none⟩ = some (.int .i64 t.ev) := cell_keep bb4 c3_t_2
  have c4_t_3 : w4.cell? ⟨w.heap.size, 3, none⟩ = some (.bool t.bz) := cell_keep bb4 c3_t_3
  have c4_t_4 : w4.cell? ⟨w.heap.size, 4, none⟩ = some (.slice t.p t.kids.length t.cap) := cell_keep bb4 c3_t_4
  have l4_t : w.heap.size < w4.heap.size := by omega
  have m4_t : w.heap.size < w4.heap.size + 1 := by omega
  have c4_c_0 : w4.cell? ⟨w.heap.size + 1, 0, none⟩ = some (.bool c.b0) := cell_keep bb4 c3_c_0
  have c4_c_1 : w4.cell? ⟨w.heap.size + 1, 1, none⟩ = some (.bool c.b1) := cell_keep bb4 c3_c_1
  have c4_c_2 : w4.cell? ⟨w.heap.size + 1, 2, none⟩ = some (.bool c.b2) := cell_keep bb4 c3_c_2
  have c4_c_3 : w4.cell? ⟨w.heap.size + 1, 3, none⟩ = some (.bool c.b3) := cell_keep bb4 c3_c_3
  have c4_c_4 : w4.cell? ⟨w.heap.size + 1, 4, none⟩ = some (.bool c.b4) := cell_keep bb4 c3_c_4
  have c4_c_5 : w4.cell? ⟨w.heap.size + 1, 5, none⟩ = some (.bool c.b5) := cell_keep bb4 c3_c_5
  have c4_c_6 : w4.cell? ⟨w.heap.size + 1, 6, none⟩ = some (.bool c.b6) := cell_keep bb4 c3_c_6
  have c4_c_7 : w4.cell? ⟨w.heap.size + 1, 7, none⟩ = some (.slice c.p c.hs.length c.cap) := cell_keep bb4 c3_c_7
  have l4_c : w.heap.size + 1 < w4.heap.size := by omega
  have m4_c : w.heap.size + 1 < w4.heap.size + 1 := by omega
  have HT4 := Lib.hid (HT3.out.below bb4)
  have HC4 := Lib.hid (HC3.out.below bb4)
  have HL4 := Lib.hid (HL3.out.below bb4)
  have HM4 := Lib.hid (HM3.out.below bb4)
  have HH4 := Lib.hid (HH3.out.below bb4)
  have HE4 := Lib.hid (HE3.out.below bb4)
  have BE4 := Lib.hid be4
  clear be4 bb4 hb4 BE3 c3_t_0 c3_t_1 c3_t_2 c3_t_3 c3_t_4 l3_t m3_t c3_c_0 c3_c_1 c3_c_2 c3_c_3 c3_c_4 c3_c_5 c3_c_6 c3_c_7 l3_c m3_c HT3 HC3 HL3 HM3 HH3 HE3
  go_wp2_with fail
  go_ret
  exact ⟨rfl, (by have q := BE4.out; repeat (first | exact q | refine Below.setCell ?_ (by first | (simp; done) | omega | (simp; omega)) _ | refine Below.alloc ?_ (by first | (simp; done) | omega | (simp; omega)) _ | refine below_drewN ?_ _ | refine Below.drew ?_))⟩
set_option maxRecDepth 100000 in
set_option maxHeartbeats 1600000 in
theorem bo_k1 (t : Dl.T) (c : Cal) (q1 q2 q3 : Option Addr) (cap1 cap2 cap3 : Nat) (lo mid hi : List Wh) (a b : Int) (d h : Int) (ok : Bool) (w : World) (ht : TAt w t) (hn : LenOK t) (hc : CalIn w c) (hl : EvAt w q1 lo) (hm : EvAt w q2 mid) (hh : EvAt w q3 hi) (he : Env w) (hs : smallB t lo = true) (hs2 : smallB t hi = true) (hln : lo.length ≤ 40) (hlh : hi.length ≤ 40) (hb : boundsS t c lo hi = (a, b, true, 0)) (ha : evalS t c lo = (a, true, 0)) (hd : evalS t c hi = (b, true, 0)) (hab : a ≤ b) (hf : evalS t c mid = (d, ok, h)) (ho1 : ordL lo mid = false) :
    Calls Tryd.prog 4 #[.agg #[.int .i64 t.kd, .int .i64 t.n, .int .i64 t.ev, .bool t.bz, .slice t.p t.kids.length t.cap], .agg #[.bool c.b0, .bool c.b1, .bool c.b2, .bool c.b3, .bool c.b4, .bool c.b5, .bool c.b6, .slice c.p c.hs.length c.cap], .slice q1 lo.length cap1, .slice q2 mid.length cap2, .slice q3 hi.length cap3] w fun e w' => e = .returned (.bool true) ∧ Below w.heap.size w w' := by
  have HT0 := Lib.hid ht
  clear ht
  have HC0 := Lib.hid hc
  clear hc
  have HL0 := Lib.hid hl
  clear hl
  have HM0 := Lib.hid hm
  clear hm
  have HH0 := Lib.hid hh
  clear hh
  have HE0 := Lib.hid he
  clear he
  have HN := Lib.hid hn
  clear hn
  have hba : decide (b < a) = false := decide_eq_false (by omega)
  have HS := Lib.hid hs
  clear hs
  have HS2 := Lib.hid hs2
  clear hs2
  have HB := Lib.hid hb
  clear hb
  have HA := Lib.hid ha
  clear ha
  have HD := Lib.hid hd
  clear hd
  have HF := Lib.hid hf
  clear hf
  have HO1 := Lib.hid ho1
  clear ho1
  go_enter Tryd.func4, Tryd.ntmps4
  go_wp2_with fail
  refine (head_any _ (HE0.out.below (by repeat (first | exact Below.refl _ _ | assumption | refine below_drewN ?_ _ | refine Below.setCell ?_ (by first | (simp; done) | (simp; omega)) _ | refine Below.alloc ?_ (by first | (simp; done) | (simp; omega) | omega) _ | refine Below.drew ?_ | refine Below.trans ?_ (Below.mono (by assumption) (by first | (simp; done) | (simp; omega) | omega)))))).mono ?_
  rintro e w1 ⟨rfl, hb1⟩
  have hz1 := hb1.size
  (try simp at hz1)
  have bb1 : Below w.heap.size w w1 := (by repeat (first | exact Below.refl _ _ | assumption | refine below_drewN ?_ _ | refine Below.setCell ?_ (by first | (simp; done) | (simp; omega)) _ | refine Below.alloc ?_ (by first | (simp; done) | (simp; omega) | omega) _ | refine Below.drew ?_ | refine Below.trans ?_ (Below.mono (by assumption) (by first | (simp; done) | (simp; omega) | omega))))
  have be1 : Below w.heap.size w w1 := bb1
  have c1_t_0 : w1.cell? ⟨w.heap.size, 0, none⟩ = some (.int .i64 t.kd) := cell_keep hb1 (by go_simp)
  have c1_t_1 : w1.cell? ⟨w.heap.size, 1, none⟩ = some (.int .i64 t.n) := cell_keep hb1 (by go_simp)
  have c1_t_2 : w1.cell? ⟨w.heap.size, 2, none⟩ = some (.int .i64 t.ev) := cell_keep hb1 (by go_simp)
  have c1_t_3 : w1.cell? ⟨w.heap.size, 3, none⟩ = some (.bool t.bz) := cell_keep hb1 (by go_simp)
  have c1_t_4 : w1.cell? ⟨w.heap.size, 4, none⟩ = some (.slice t.p t.kids.length t.cap) := cell_keep hb1 (by go_simp)
  have l1_t : w.heap.size < w1.heap.size := by omega
  have m1_t : w.heap.size < w1.heap.size + 1 := by omega
  have c1_c_0 : w1.cell? ⟨w.heap.size + 1, 0, none⟩ = some (.bool c.b0) := cell_keep hb1 (by go_simp)
  have c1_c_1 : w1.cell? ⟨w.heap.size + 1, 1, none⟩ = some (.bool c.b1) := cell_keep hb1 (by go_simp)
  have c1_c_2 : w1.cell? ⟨w.heap.size + 1, 2, none⟩ = some (.bool c.b2) := cell_keep hb1 (by go_simp)
  have c1_c_3 : w1.cell? ⟨w.heap.size + 1, 3, none⟩ = some (.bool c.b3) := cell_keep hb1 (by go_simp)
  have c1_c_4 : w1.cell? ⟨w.heap.size + 1, 4, none⟩ = some (.bool c.b4) := cell_keep hb1 (by go_simp)
  have c1_c_5 : w1.cell? ⟨w.heap.size + 1, 5, none⟩ = some (.bool c.b5) := cell_keep hb1 (by go_simp)
  have c1_c_6 : w1.cell? ⟨w.heap.size + 1, 6, none⟩ = some (.bool c.b6) := cell_keep hb1 (by go_simp)
  have c1_c_7 : w1.cell? ⟨w.heap.size + 1, 7, none⟩ = some (.slice c.p c.hs.length c.cap) := cell_keep hb1 (by go_simp)
  have l1_c : w.heap.size + 1 < w1.heap.size := by omega
  have m1_c : w.heap.size + 1 < w1.heap.size + 1 := by omega
  have HT1 := Lib.hid (HT0.out.below bb1)
  have HC1 := Lib.hid (HC0.out.below bb1)
  have HL1 := Lib.hid (HL0.out.below bb1)
  have HM1 := Lib.hid (HM0.out.below bb1)
  have HH1 := Lib.hid (HH0.out.below bb1)
  have HE1 := Lib.hid (HE0.out.below bb1)
  have BE1 := Lib.hid be1
  clear be1 bb1 hb1 HT0 HC0 HL0 HM0 HH0 HE0
  go_wp2_with fail
  refine (small_any t q1 lo cap1 _ HN.out (HT1.out.below (by repeat (first | exact Below.refl _ _ | assumption | refine below_drewN ?_ _ | refine Below.setCell ?_ (by first | (simp; done) | (simp; omega)) _ | refine Below.alloc ?_ (by first | (simp; done) | (simp; omega) | omega) _ | refine Below.drew ?_ | refine Below.trans ?_ (Below.mono (by assumption) (by first | (simp; done) | (simp; omega) | omega)))))).mono ?_
  rintro e w2 ⟨rfl, hb2⟩
  rw [HS.out]
  have hz2 := hb2.size
  (try simp at hz2)
  have bb2 : Below w1.heap.size w1 w2 := (by repeat (first | exact Below.refl _ _ | assumption | refine below_drewN ?_ _ | refine Below.setCell ?_ (by first | (simp; done) | (simp; omega)) _ | refine Below.alloc ?_ (by first | (simp; done) | (simp; omega) | omega) _ | refine Below.drew ?_ | refine Below.trans ?_ (Below.mono (by assumption) (by first | (simp; done) | (simp; omega) | omega))))
  have be2 : Below w.heap.size w w2 := BE1.out.trans (bb2.mono BE1.out.size)
  have c2_t_0 : w2.cell? ⟨w.heap.size, 0, none⟩ = some (.int .i64 t.kd) := cell_keep bb2 c1_t_0
  have c2_t_1 : w2.cell? ⟨w.heap.size, 1, none⟩ = some (.int .i64 t.n) := cell_keep bb2 c1_t_1
  have c2_t_2 : w2.cell? ⟨w.heap.size, 2, none⟩ = some (.int .i64 t.ev) := cell_keep bb2 c1_t_2
  have c2_t_3 : w2.cell? ⟨w.heap.size, 3, none⟩ = some (.bool t.bz) := cell_keep bb2 c1_t_3
  have c2_t_4 : w2.cell? ⟨w.heap.size, 4, none⟩ = some (.slice t.p t.kids.length t.cap) := cell_keep bb2 c1_t_4
  have l2_t : w.heap.size < w2.heap.size := by omega
  have m2_t : w.heap.size < w2.heap.size + 1 := by omega
  have c2_c_0 : w2.cell? ⟨w.heap.size + 1, 0, none⟩ = some (.bool c.b0) := cell_keep bb2 c1_c_0
  have c2_c_1 : w2.cell? ⟨w.heap.size + 1, 1, none⟩ = some (.bool c.b1) := cell_keep bb2 c1_c_1
  have c2_c_2 : w2.cell? ⟨w.heap.size + 1, 2, none⟩ = some (.bool c.b2) := cell_keep bb2 c1_c_2
  have c2_c_3 : w2.cell? ⟨w.heap.size + 1, 3, none⟩ = some (.bool c.b3) := cell_keep bb2 c1_c_3
  have c2_c_4 : w2.cell? ⟨w.heap.size + 1, 4, none⟩ = some (.bool c.b4) := cell_keep bb2 c1_c_4
  have c2_c_5 : w2.cell? ⟨w.heap.size + 1, 5, none⟩ = some (.bool c.b5) := cell_keep bb2 c1_c_5
  have c2_c_6 : w2.cell? ⟨w.heap.size + 1, 6, none⟩ = some (.bool c.b6) := cell_keep bb2 c1_c_6
  have c2_c_7 : w2.cell? ⟨w.heap.size + 1, 7, none⟩ = some (.slice c.p c.hs.length c.cap) := cell_keep bb2 c1_c_7
  have l2_c : w.heap.size + 1 < w2.heap.size := by omega
  have m2_c : w.heap.size + 1 < w2.heap.size + 1 := by omega
  have HT2 := Lib.hid (HT1.out.below bb2)
  have HC2 := Lib.hid (HC1.out.below bb2)
  have HL2 := Lib.hid (HL1.out.below bb2)
  have HM2 := Lib.hid (HM1.out.below bb2)
  have HH2 := Lib.hid (HH1.out.below bb2)
  have HE2 := Lib.hid (HE1.out.below bb2)
  have BE2 := Lib.hid be2
  clear be2 bb2 hb2 BE1 c1_t_0 c1_t_1 c1_t_2 c1_t_3 c1_t_4 l1_t m1_t c1_c_0 c1_c_1 c1_c_2 c1_c_3 c1_c_4 c1_c_5 c1_c_6 c1_c_7 l1_c m1_c HT1 HC1 HL1 HM1 HH1 HE1
  go_wp2_with fail
  refine (small_any t q3 hi cap3 _ HN.out (HT2.out.below (by repeat (first | exact Below.refl _ _ | assumption | refine below_drewN ?_ _ | refine Below.setCell ?_ (by first | (simp; done) | (simp; omega)) _ | refine Below.alloc ?_ (by first | (simp; done) | (simp; omega) | omega) _ | refine Below.drew ?_ | refine Below.trans ?_ (Below.mono (by assumption) (by first | (simp; done) | (simp; omega) | omega)))))).mono ?_
  rintro e w3 ⟨rfl, hb3⟩
  rw [HS2.out]
  have hz3 := hb3.size
  (try simp at hz3)
  have bb3 : Below w2.heap.size w2 w3 := (by repeat (first | exact Below.refl _ _ | assumption | refine below_drewN ?_ _ | refine Below.setCell ?_ (by first | (simp; done) | (simp; omega)) _ | refine Below.alloc ?_ (by first | (simp; done) | (simp; omega) | omega) _ | refine Below.drew ?_ | refine Below.trans ?_ (Below.mono (by assumption) (by first | (simp; done) | (simp; omega) | omega))))
  have be3 : Below w.heap.size w w3 := BE2.out.trans (bb3.mono BE2.out.size)
  have c3_t_0 : w3.cell? ⟨w.heap.size, 0, none⟩ = some (.int .i64 t.kd) := cell_keep bb3 c2_t_0
  have c3_t_1 : w3.cell? ⟨w.heap.size, 1, none⟩ = some (.int .i64 t.n) := cell_keep bb3 c2_t_1
  have c3_t_2 : w3.cell? ⟨w.heap.size, 2, none⟩ = some (.int .i64 t.ev) := cell_keep bb3 c2_t_2
  have c3_t_3 : w3.cell? ⟨w.heap.size, 3, none⟩ = some (.bool t.bz) := cell_keep bb3 c2_t_3
  have c3_t_4 : w3.cell? ⟨w.heap.size, 4, none⟩ = some (.slice t.p t.kids.length t.cap) := cell_keep bb3 c2_t_4
  have l3_t : w.heap.size < w3.heap.size := by omega
  have m3_t : w.heap.size < w3.heap.size + 1 := by omega
  have c3_c_0 : w3.cell? ⟨w.heap.size + 1, 0, none⟩ = some (.bool c.b0) := cell_keep bb3 c2_c_0
  have c3_c_1 : w3.cell? ⟨w.heap.size + 1, 1, none⟩ = some (.bool c.b1) := cell_keep bb3 c2_c_1
  have c3_c_2 : w3.cell? ⟨w.heap.size + 1, 2, none⟩ = some (.bool c.b2) := cell_keep bb3 c2_c_2
  have c3_c_3 : w3.cell? ⟨w.heap.size + 1, 3, none⟩ = some (.bool c.b3) := cell_keep bb3 c2_c_3
  have c3_c_4 : w3.cell? ⟨w.heap.size + 1, 4, none⟩ = some (.bool c.b4) := cell_keep bb3 c2_c_4
  have c3_c_5 : w3.cell? ⟨w.heap.size + 1, 5, none⟩ = some (.bool c.b5) := cell_keep bb3 c2_c_5
  have c3_c_6 : w3.cell? ⟨w.heap.size + 1, 6, none⟩ = some (.bool c.b6) := cell_keep bb3 c2_c_6
  have c3_c_7 : w3.cell? ⟨w.heap.size + 1, 7, none⟩ = some (.slice c.p c.hs.length c.cap) := cell_keep bb3 c2_c_7
  have l3_c : w.heap.size + 1 < w3.heap.size := by omega
  have m3_c : w.heap.size + 1 < w3.heap.size + 1 := by omega
  have HT3 := Lib.hid (HT2.out.below bb3)
  have HC3 := Lib.hid (HC2.out.below bb3)
  have HL3 := Lib.hid (HL2.out.below bb3)
  have HM3 := Lib.hid (HM2.out.below bb3)
  have HH3 := Lib.hid (HH2.out.below bb3)
  have HE3 := Lib.hid (HE2.out.below bb3)
  have BE3 := Lib.hid be3
  clear be3 bb3 hb3 BE2 c2_t_0 c2_t_1 c2_t_2 c2_t_3 c2_t_4 l2_t m2_t c2_c_0 c2_c_1 c2_c_2 c2_c_3 c2_c_4 c2_c_5 c2_c_6 c2_c_7 l2_c m2_c HT2 HC2 HL2 HM2 HH2 HE2
  go_wp2_with fail
  refine (bounds_at t c q1 q3 cap1 cap3 lo hi _ (HT3.out.below (by repeat (first | exact Below.refl _ _ | assumption | refine below_drewN ?_ _ | refine Below.setCell ?_ (by first | (simp; done) | (simp; omega)) _ | refine Below.alloc ?_ (by first | (simp; done) | (simp; omega) | omega) _ | refine Below.drew ?_ | refine Below.trans ?_ (Below.mono (by assumption) (by first | (simp; done) | (simp; omega) | omega))))) (HC3.out.below (by repeat (first | exact Below.refl _ _ | assumption | refine below_drewN ?_ _ | refine Below.setCell ?_ (by first | (simp; done) | (simp; omega)) _ | refine Below.alloc ?_ (by first | (simp; done) | (simp; omega) | omega) _ | refine Below.drew ?_ | refine Below.trans ?_ (Below.mono (by assumption) (by first | (simp; done) | (simp; omega) | omega))))) (HL3.out.below (by repeat (first | exact Below.refl _ _ | assumption | refine below_drewN ?_ _ | refine Below.setCell ?_ (by first | (simp; done) | (simp; omega)) _ | refine Below.alloc ?_ (by first | (simp; done) | (simp; omega) | omega) _ | refine Below.drew ?_ | refine Below.trans ?_ (Below.mono (by assumption) (by first | (simp; done) | (simp; omega) | omega))))) (HH3.out.below (by repeat (first | exact Below.refl _ _ | assumption | refine below_drewN ?_ _ | refine Below.setCell ?_ (by first | (simp; done) | (simp; omega)) _ | refine Below.alloc ?_ (by first | (simp; done) | (simp; omega) | omega) _ | refine Below.drew ?_ | refine Below.trans ?_ (Below.mono (by assumption) (by first | (simp; done) | (simp; omega) | omega))))) (by omega) (by omega) (HE3.out.below (by repeat (first | exact Below.refl _ _ | assumption | refine below_drewN ?_ _ | refine Below.setCell ?_ (by first | (simp; done) | (simp; omega)) _ | refine Below.alloc ?_ (by first | (simp; done) | (simp; omega) | omega) _ | refine Below.drew ?_ | refine Below.trans ?_ (Below.mono (by assumption) (by first | (simp; done) | (simp; omega) | omega)))))).mono ?_
  rintro e w4 ⟨rfl, hb4⟩
  rw [HB.out]
  simp only [R4]
  have hz4 := hb4.size
  (try simp at hz4)
  have bb4 : Below w3.heap.size w3 w4 := (by repeat (first | exact Below.refl _ _ | assumption | refine below_drewN ?_ _ | refine Below.setCell ?_ (by first | (simp; done) | (simp; omega)) _ | refine Below.alloc ?_ (by first | (simp; done) | (simp; omega) | omega) _ | refine Below.drew ?_ | refine Below.trans ?_ (Below.mono (by assumption) (by first | (simp; done) | (simp; omega) | omega))))
  have be4 : Below w.heap.size w w4 := BE3.out.trans (bb4.mono BE3.out.size)
  have c4_t_0 : w4.cell? ⟨w.heap.size, 0, none⟩ = some (.int .i64 t.kd) := cell_keep bb4 c3_t_0
  have c4_t_1 : w4.cell? ⟨w.heap.size, 1, none⟩ = some (.int .i64 t.n) := cell_keep bb4 c3_t_1
  have c4_t_2 : w4.cell? ⟨w.heap.size, 2, none⟩ = some (.int .i64 t.ev) := cell_keep bb4 c3_t_2
  have c4_t_3 : w4.cell? ⟨w.heap.size, 3, none⟩ = some (.bool t.bz) := cell_keep bb4 c3_t_3
  have c4_t_4 : w4.cell? ⟨w.heap.size, 4, none⟩ = some (.slice t.p t.kids.length t.cap) := cell_keep bb4 c3_t_4
  have l4_t : w.heap.size < w4.heap.size := by omega
  have m4_t : w.heap.size < w4.heap.size + 1 := by omega
  have c4_c_0 : w4.cell? ⟨w.heap.size + 1, 0, none⟩ = some (.bool c.b0) := cell_keep bb4 c3_c_0
  have c4_c_1 : w4.cell? ⟨w.heap.size + 1, 1, none⟩ = some (.bool c.b1) := cell_keep bb4 c3_c_1
  have c4_c_2 : w4.cell? ⟨w.heap.size + 1, 2, none⟩ = some (.bool c.b2) := cell_keep bb4 c3_c_2
  have c4_c_3 : w4.cell? ⟨w.heap.size + 1, 3, none⟩ = some (.bool c.b3) := cell_keep bb4 c3_c_3
  have c4_c_4 : w4.cell? ⟨w.heap.size + 1, 4, none⟩ = some (.bool c.b4) := cell_keep bb4 c3_c_4
  have c4_c_5 : w4.cell? ⟨w.heap.size + 1, 5, none⟩ = some (.bool c.b5) := cell_keep bb4 c3_c_5
  have c4_c_6 : w4.cell? ⟨w.heap.size + 1, 6, none⟩ = some (.bool c.b6) := cell_keep bb4 c3_c_6
  have c4_c_7 : w4.cell? ⟨w.heap.size + 1, 7, none⟩ = some (.slice c.p c.hs.length c.cap) := cell_keep bb4 c3_c_7
  have l4_c : w.heap.size + 1 < w4.heap.size := by omega
  have m4_c : w.heap.size + 1 < w4.heap.size + 1 := by omega
  have HT4 := Lib.hid (HT3.out.below bb4)
  have HC4 := Lib.hid (HC3.out.below bb4)
  have HL4 := Lib.hid (HL3.out.below bb4)
  have HM4 := Lib.hid (HM3.out.below bb4)
  have HH4 := Lib.hid (HH3.out.below bb4)
  have HE4 := Lib.hid (HE3.out.below bb4)
  have BE4 := Lib.hid be4
  clear be4 bb4 hb4 BE3 c3_t_0 c3_t_1 c3_t_2 c3_t_3 c3_t_4 l3_t m3_t c3_c_0 c3_c_1 c3_c_2 c3_c_3 c3_c_4 c3_c_5 c3_c_6 c3_c_7 l3_c m3_c HT3 HC3 HL3 HM3 HH3 HE3
  go_wp2_with fail
  refine (eval_at t c q1 cap1 lo _ (HT4.out.below (by repeat (first | exact Below.refl _ _ | assumption | refine below_drewN ?_ _ | refine Below.setCell ?_ (by first | (simp; done) | (simp; omega)) _ | refine Below.alloc ?_ (by first | (simp; done) | (simp; omega) | omega) _ | refine Below.drew ?_ | refine Below.trans ?_ (Below.mono (by assumption) (by first | (simp; done) | (simp; omega) | omega))))) (HC4.out.below (by repeat (first | exact Below.refl _ _ | assumption | refine below_drewN ?_ _ | refine Below.setCell ?_ (by first | (simp; done) | (simp; omega)) _ | refine Below.alloc ?_ (by first | (simp; done) | (simp; omega) | omega) _ | refine Below.drew ?_ | refine Below.trans ?_ (Below.mono (by assumption) (by first | (simp; done) | (simp; omega) | omega))))) (HL4.out.below (by repeat (first | exact Below.refl _ _ | assumption | refine below_drewN ?_ _ | refine Below.setCell ?_ (by first | (simp; done) | (simp; omega)) _ | refine Below.alloc ?_ (by first | (simp; done) | (simp; omega) | omega) _ | refine Below.drew ?_ | refine Below.trans ?_ (Below.mono (by assumption) (by first | (simp; done) | (simp; omega) | omega))))) (by omega) (HE4.out.below (by repeat (first | exact Below.refl _ _ | assumption | refine below_drewN ?_ _ | refine Below.setCell ?_ (by first | (simp; done) | (simp; omega)) _ | refine Below.alloc ?_ (by first | (simp; done) | (simp; omega) | omega) _ | refine Below.drew ?_ | refine Below.trans ?_ (Below.mono (by assumption) (by first | (simp; done) | (simp; omega) | omega)))))).mono ?_
  rintro e w5 ⟨rfl, hb5⟩
  rw [HA.out]
  simp only [R3]
  have hz5 := hb5.size
  (try simp at hz5)
  have bb5 : Below w4.heap.size w4 w5 := (by repeat (first | exact Below.refl _ _ | assumption | refine below_drewN ?_ _ | refine Below.setCell ?_ (by first | (simp; done) | (simp; omega)) _ | refine Below.alloc ?_ (by first | (simp; done) | (simp; omega) | omega) _ | refine Below.drew ?_ | refine Below.trans ?_ (Below.mono (by assumption) (by first | (simp; done) | (simp; omega) | omega))))
  have be5 : Below w.heap.size w w5 := BE4.out.trans (bb5.mono BE4.out.size)
  have c5_t_0 : w5.cell? ⟨w.heap.size, 0, none⟩ = some (.int .i64 t.kd) := cell_keep bb5 c4_t_0
  have c5_t_1 : w5.cell? ⟨w.heap.size, 1, none⟩ = some (.int .i64 t.n) := cell_keep bb5 c4_t_1
  have c5_t_2 : w5.cell? ⟨w.heap.size, 2, none⟩ = some (.int .i64 t.ev) := cell_keep bb5 c4_t_2
  have c5_t_3 : w5.cell? ⟨w.heap.size, 3, none⟩ = some (.bool t.bz) := cell_keep bb5 c4_t_3
  have c5_t_4 : w5.cell? ⟨w.heap.size, 4, none⟩ = some (.slice t.p t.kids.length t.cap) := cell_keep bb5 c4_t_4
  have l5_t : w.heap.size < w5.heap.size := by omega
  have m5_t : w.heap.size < w5.heap.size + 1 := by omega
  have c5_c_0 : w5.cell? ⟨w.heap.size + 1, 0, none⟩ = some (.bool c.b0) := cell_keep bb5 c4_c_0
  have c5_c_1 : w5.cell? ⟨w.heap.size + 1, 1, none⟩ = some (.bool c.b1) := cell_keep bb5 c4_c_1
  have c5_c_2 : w5.cell? ⟨w.heap.size + 1, 2, none⟩ = some (.bool c.b2) := cell_keep bb5 c4_c_2
  have c5_c_3 : w5.cell? ⟨w.heap.size + 1, 3, none⟩ = some (.bool c.b3) := cell_keep bb5 c4_c_3
  have c5_c_4 : w5.cell? ⟨w.heap.size + 1, 4, none⟩ = some (.bool c.b4) := cell_keep bb5 c4_c_4
  have c5_c_5 : w5.cell? ⟨w.heap.size + 1, 5, none⟩ = some (.bool c.b5) := cell_keep bb5 c4_c_5
  have c5_c_6 : w5.cell? ⟨w.heap.size + 1, 6, none⟩ = some (.bool c.b6) := cell_keep bb5 c4_c_6
  have c5_c_7 : w5.cell? ⟨w.heap.size + 1, 7, none⟩ = some (.slice c.p c.hs.length c.cap) := cell_keep bb5 c4_c_7
  have l5_c : w.heap.size + 1 < w5.heap.size := by omega
  have m5_c : w.heap.size + 1 < w5.heap.size + 1 := by omega
  have HT5 := Lib.hid (HT4.out.below bb5)
  have HC5 := Lib.hid (HC4.out.below bb5)
  have HL5 := Lib.hid (HL4.out.below bb5)
  have HM5 := Lib.hid (HM4.out.below bb5)
  have HH5 := Lib.hid (HH4.out.below bb5)
  have HE5 := Lib.hid (HE4.out.below bb5)
  have BE5 := Lib.hid be5
  clear be5 bb5 hb5 BE4 c4_t_0 c4_t_1 c4_t_2 c4_t_3 c4_t_4 l4_t m4_t c4_c_0 c4_c_1 c4_c_2 c4_c_3 c4_c_4 c4_c_5 c4_c_6 c4_c_7 l4_c m4_c HT4 HC4 HL4 HM4 HH4 HE4
  go_wp2_with fail
  refine (eval_at t c q3 cap3 hi _ (HT5.out.below (by repeat (first | exact Below.refl _ _ | assumption | refine below_drewN ?_ _ | refine Below.setCell ?_ (by first | (simp; done) | (simp; omega)) _ | refine Below.alloc ?_ (by first | (simp; done) | (simp; omega) | omega) _ | refine Below.drew ?_ | refine Below.trans ?_ (Below.mono (by assumption) (by first | (simp; done) | (simp; omega) | omega))))) (HC5.out.below (by repeat (first | exact Below.refl _ _ | assumption | refine below_drewN ?_ _ | refine Below.setCell ?_ (by first | (simp; done) | (simp; omega)) _ | refine Below.alloc ?_ (by first | (simp; done) | (simp; omega) | omega) _ | refine Below.drew ?_ | refine Below.trans ?_ (Below.mono (by assumption) (by first | (simp; done) | (simp; omega) | omega))))) (HH5.out.below (by repeat (first | exact Below.refl _ _ | assumption | refine below_drewN ?_ _ | refine Below.setCell ?_ (by first | (simp; done) | (simp; omega)) _ | refine Below.alloc ?_ (by first | (simp; done) | (simp; omega) | omega) _ | refine Below.drew ?_ | refine Below.trans ?_ (Below.mono (by assumption) (by first | (simp; done) | (simp; omega) | omega))))) (by omega) (HE5.out.below (by repeat (first | exact Below.refl _ _ | assumption | refine below_drewN ?_ _ | refine Below.setCell ?_ (by first | (simp; done) | (simp; omega)) _ | refine Below.alloc ?_ (by first | (simp; done) | (simp; omega) | omega) _ | refine Below.drew ?_ | refine Below.trans ?_ (Below.mono (by assumption) (by first | (simp; done) | (simp; omega) | omega)))))).mono ?_
  rintro e w6 ⟨rfl, hb6⟩
  rw [HD.out]
  simp only [R3]
  have hz6 := hb6.size
  (try simp at hz6)
  have bb6 : Below w5.heap.size w5 w6 := (by repeat (first | exact Below.refl _ _ | assumption | refine below_drewN ?_ _ | refine Below.setCell ?_ (by first | (simp; done) | (simp; omega)) _ | refine Below.alloc ?_ (by first | (simp; done) | (simp; omega) | omega) _ | refine Below.drew ?_ | refine Below.trans ?_ (Below.mono (by assumption) (by first | (simp; done) | (simp; omega) | omega))))
  have be6 : Below w.heap.size w w6 := BE5.out.trans (bb6.mono BE5.out.size)
  have c6_t_0 : w6.cell? ⟨w.heap.size, 0, none⟩ = some (.int .i64 t.kd) := cell_keep bb6 c5_t_0
  have c6_t_1 : w6.cell? ⟨w.heap.size, 1, none⟩ = some (.int .i64 t.n) := cell_keep bb6 c5_t_1
  have c6_t_2 : w6.cell? ⟨w.heap.size, 2, none⟩ = some (.int .i64 t.ev) := cell_keep bb6 c5_t_2
  have c6_t_3 : w6.cell? ⟨w.heap.size, 3, none⟩ = some (.bool t.bz) := cell_keep bb6 c5_t_3
  have c6_t_4 : w6.cell? ⟨w.heap.size, 4, none⟩ = some (.slice t.p t.kids.length t.cap) := cell_keep bb6 c5_t_4
  have l6_t : w.heap.size < w6.heap.size := by omega
  have m6_t : w.heap.size < w6.heap.size + 1 := by omega
  have c6_c_0 : w6.cell? ⟨w.heap.size + 1, 0, none⟩ = some (.bool c.b0) := cell_keep bb6 c5_c_0
  have c6_c_1 : w6.cell? ⟨w.heap.size + 1, 1, none⟩ = some (.bool c.b1) := cell_keep bb6 c5_c_1
  have c6_c_2 : w6.cell? ⟨w.heap.size + 1, 2, none⟩ = some (.bool c.b2) := cell_keep bb6 c5_c_2
  have c6_c_3 : w6.cell? ⟨w.heap.size + 1, 3, none⟩ = some (.bool c.b3) := cell_keep bb6 c5_c_3
  have c6_c_4 : w6.cell? ⟨w.heap.size + 1, 4, none⟩ = some (.bool c.b4) := cell_keep bb6 c5_c_4
  have c6_c_5 : w6.cell? ⟨w.heap.size + 1, 5, none⟩ = some (.bool c.b5) := cell_keep bb6 c5_c_5
  have c6_c_6 : w6.cell? ⟨w.heap.size + 1, 6, none⟩ = some (.bool c.b6) := cell_keep bb6 c5_c_6
  have c6_c_7 : w6.cell? ⟨w.heap.size + 1, 7, none⟩ = some (.slice c.p c.hs.length c.cap) := cell_keep bb6 c5_c_7
  have l6_c : w.heap.size + 1 < w6.heap.size := by omega
  have m6_c : w.heap.size + 1 < w6.heap.size + 1 := by omega
  have HT6 := Lib.hid (HT5.out.below bb6)
  have HC6 := Lib.hid (HC5.out.below bb6)
  have HL6 := Lib.hid (HL5.out.below bb6)
  have HM6 := Lib.hid (HM5.out.below bb6)
  have HH6 := Lib.hid (HH5.out.below bb6)
  have HE6 := Lib.hid (HE5.out.below bb6)
  have BE6 := Lib.hid be6
  clear be6 bb6 hb6 BE5 c5_t_0 c5_t_1 c5_t_2 c5_t_3 c5_t_4 l5_t m5_t c5_c_0 c5_c_1 c5_c_2 c5_c_3 c5_c_4 c5_c_5 c5_c_6 c5_c_7 l5_c m5_c HT5 HC5 HL5 HM5 HH5 HE5
  go_wp2_with fail
  refine (eval_wide t c q2 cap2 mid _ (HT6.out.below (by repeat (first | exact Below.refl _ _ | assumption | refine below_drewN ?_ _ | refine Below.setCell ?_ (by first | (simp; done) | (simp; omega)) _ | refine Below.alloc ?_ (by first | (simp; done) | (simp; omega) | omega) _ | refine Below.drew ?_ | refine Below.trans ?_ (Below.mono (by assumption) (by first | (simp; done) | (simp; omega) | omega))))) (HC6.out.below (by repeat (first | exact Below.refl _ _ | assumption | refine below_drewN ?_ _ | refine Below.setCell ?_ (by first | (simp; done) | (simp; omega)) _ | refine Below.alloc ?_ (by first | (simp; done) | (simp; omega) | omega) _ | refine Below.drew ?_ | refine Below.trans ?_ (Below.mono (by assumption) (by first | (simp; done) | (simp; omega) | omega))))) (HM6.out.below (by repeat (first | exact Below.refl _ _ | assumption | refine below_drewN ?_ _ | refine Below.setCell ?_ (by first | (simp; done) | (simp; omega)) _ | refine Below.alloc ?_ (by first | (simp; done) | (simp; omega) | omega) _ | refine Below.drew ?_ | refine Below.trans ?_ (Below.mono (by assumption) (by first | (simp; done) | (simp; omega) | omega))))) (HE6.out.below (by repeat (first | exact Below.refl _ _ | assumption | refine below_drewN ?_ _ | refine Below.setCell ?_ (by first | (simp; done) | (simp; omega)) _ | refine Below.alloc ?_ (by first | (simp; done) | (simp; omega) | omega) _ | refine Below.drew ?_ | refine Below.trans ?_ (Below.mono (by assumption) (by first | (simp; done) | (simp; omega) | omega)))))).mono ?_
  rintro e w7 ⟨rfl, hb7⟩
  rw [HF.out]
  simp only [R3]
  have hz7 := hb7.size
  (try simp at hz7)
  have bb7 : Below w6.heap.size w6 w7 := (by repeat (first | exact Below.refl _ _ | assumption | refine below_drewN ?_ _ | refine Below.setCell ?_ (by first | (simp; done) | (simp; omega)) _ | refine Below.alloc ?_ (by first | (simp; done) | (simp; omega) | omega) _ | refine Below.drew ?_ | refine Below.trans ?_ (Below.mono (by assumption) (by first | (simp; done) | (simp; omega) | omega))))
  have be7 : Below w.heap.size w w7 := BE6.out.trans (bb7.mono BE6.out.size)
  have c7_t_0 : w7.cell? ⟨w.heap.size, 0, none⟩ = some (.int .i64 t.kd) := cell_keep bb7 c6_t_0
  have c7_t_1 : w7.cell? ⟨w.heap.size, 1, none⟩ = some (.int .i64 t.n) := cell_keep bb7 c6_t_1
  have c7_t_2 : w7.cell? ⟨w.heap.size, 2, none⟩ = some (.int .i64 t.ev) := cell_keep bb7 c6_t_2
  have c7_t_3 : w7.cell? ⟨w.heap.size, 3, none⟩ = some (.bool t.bz) := cell_keep bb7 c6_t_3
  have c7_t_4 : w7.cell? ⟨w.heap.size, 4, none⟩ = some (.slice t.p t.kids.length t.cap) := cell_keep bb7 c6_t_4
  have l7_t : w.heap.size < w7.heap.size := by omega
  have m7_t : w.heap.size < w7.heap.size + 1 := by omega
  have c7_c_0 : w7.cell? ⟨w.heap.size + 1, 0, none⟩ = some (.bool c.b0) := cell_keep bb7 c6_c_0
  have c7_c_1 : w7.cell? ⟨w.heap.size + 1, 1, none⟩ = some (.bool c.b1) := cell_keep bb7 c6_c_1
  have c7_c_2 : w7.cell? ⟨w.heap.size + 1, 2, none⟩ = some (.bool c.b2) := cell_keep bb7 c6_c_2
  have c7_c_3 : w7.cell? ⟨w.heap.size + 1, 3, none⟩ = some (.bool c.b3) := cell_keep bb7 c6_c_3
  have c7_c_4 : w7.cell? ⟨w.heap.size + 1, 4, none⟩ = some (.bool c.b4) := cell_keep bb7 c6_c_4
  have c7_c_5 : w7.cell? ⟨w.heap.size + 1, 5, none⟩ = some (.bool c.b5) := cell_keep bb7 c6_c_5
  have c7_c_6 : w7.cell? ⟨w.heap.size + 1, 6, none⟩ = some (.bool c.b6) := cell_keep bb7 c6_c_6
  have c7_c_7 : w7.cell? ⟨w.heap.size + 1, 7, none⟩ = some (.slice c.p c.hs.length c.cap) := cell_keep bb7 c6_c_7
  have l7_c : w.heap.size + 1 < w7.heap.size := by omega
  have m7_c : w.heap.size + 1 < w7.heap.size + 1 := by omega
  have HT7 := Lib.hid (HT6.out.below bb7)
  have HC7 := Lib.hid (HC6.out.below bb7)
  have HL7 := Lib.hid (HL6.out.below bb7)
  have HM7 := Lib.hid (HM6.out.below bb7)
  have HH7 := Lib.hid (HH6.out.below bb7)
  have HE7 := Lib.hid (HE6.out.below bb7)
  have BE7 := Lib.hid be7
  clear be7 bb7 hb7 BE6 c6_t_0 c6_t_1 c6_t_2 c6_t_3 c6_t_4 l6_t m6_t c6_c_0 c6_c_1 c6_c_2 c6_c_3 c6_c_4 c6_c_5 c6_c_6 c6_c_7 l6_c m6_c HT6 HC6 HL6 HM6 HH6 HE6
  go_wp2_with fail
  refine (ordered_calls q1 q2 cap1 cap2 lo mid _ (by omega) (HL7.out.below (by repeat (first | exact Below.refl _ _ | assumption | refine below_drewN ?_ _ | refine Below.setCell ?_ (by first | (simp; done) | (simp; omega)) _ | refine Below.alloc ?_ (by first | (simp; done) | (simp; omega) | omega) _ | refine Below.drew ?_ | refine Below.trans ?_ (Below.mono (by assumption) (by first | (simp; done) | (simp; omega) | omega))))) (HM7.out.below (by repeat (first | exact Below.refl _ _ | assumption | refine below_drewN ?_ _ | refine Below.setCell ?_ (by first | (simp; done) | (simp; omega)) _ | refine Below.alloc ?_ (by first | (simp; done) | (simp; omega) | omega) _ | refine Below.drew ?_ | refine Below.trans ?_ (Below.mono (by assumption) (by first | (simp; done) | (simp; omega) | omega)))))).mono ?_
  rintro e w8 ⟨rfl, hb8⟩
  rw [HO1.out]
  have hz8 := hb8.size
  (try simp at hz8)
  have bb8 : Below w7.heap.size w7 w8 := (by repeat (first | exact Below.refl _ _ | assumption | refine below_drewN ?_ _ | refine Below.setCell ?_ (by first | (simp; done) | (simp; omega)) _ | refine Below.alloc ?_ (by first | (simp; done) | (simp; omega) | omega) _ | refine Below.drew ?_ | refine Below.trans ?_ (Below.mono (by assumption) (by first | (simp; done) | (simp; omega) | omega))))
  have be8 : Below w.heap.size w w8 := BE7.out.trans (bb8.mono BE7.out.size)
  have c8_t_0 : w8.cell? ⟨w.heap.size, 0, none⟩ = some (.int .i64 t.kd) := cell_keep bb8 c7_t_0
  have c8_t_1 : w8.cell? ⟨w.heap.size, 1, none⟩ = some (.int .i64 t.n) := cell_keep bb8 c7_t_1
  have c8_t_2 : w8.cell? ⟨w.heap.size, 2, none⟩ = some (.int .i64 t.ev) := cell_keep bb8 c7_t_2
  have c8_t_3 : w8.cell? ⟨w.heap.size, 3, none⟩ = some (.bool t.bz) := cell_keep bb8 c7_t_3
  have c8_t_4 : w8.cell? ⟨w.heap.size, 4, none⟩ = some (.slice t.p t.kids.length t.cap) := cell_keep bb8 c7_t_4
  have l8_t : w.heap.size < w8.heap.size := by omega
  have m8_t : w.heap.size < w8.heap.size + 1 := by omega
  have c8_c_0 : w8.cell? ⟨w.heap.size + 1, 0, none⟩ = some (.bool c.b0) := cell_keep bb8 c7_c_0
  have c8_c_1 : w8.cell? ⟨w.heap.size + 1, 1, none⟩ = some (.bool c.b1) := cell_keep bb8 c7_c_1
  have c8_c_2 : w8.cell? ⟨w.heap.size + 1, 2, none⟩ = some (.bool c.b2) := cell_keep bb8 c7_c_2
  have c8_c_3 : w8.cell? ⟨w.heap.size + 1, 3, none⟩ = some (.bool c.b3) := cell_keep bb8 c7_c_3
  have c8_c_4 : w8.cell? ⟨w.heap.size + 1, 4, none⟩ = some (.bool c.b4) := cell_keep bb8 c7_c_4
  have c8_c_5 : w8.cell? ⟨w.heap.size + 1, 5, none⟩ = some (.bool c.b5) := cell_keep bb8 c7_c_5
  have c8_c_6 : w8.cell? ⟨w.heap.size + 1, 6, none⟩ = some (.bool c.b6) := cell_keep bb8 c7_c_6
  have c8_c_7 : w8.cell? ⟨w.heap.size + 1, 7, none⟩ = some (.slice c.p c.hs.length c.cap) := cell_keep bb8 c7_c_7
  have l8_c : w.heap.size + 1 < w8.heap.size := by omega
  have m8_c : w.heap.size + 1 < w8.heap.size + 1 := by omega
  have HT8 := Lib.hid (HT7.out.below bb8)
  have HC8 := Lib.hid (HC7.out.below bb8)
  have HL8 := Lib.hid (HL7.out.below bb8)
  have HM8 := Lib.hid (HM7.out.below bb8)
  have HH8 := Lib.hid (HH7.out.below bb8)
  have HE8 := Lib.hid (HE7.out.below bb8)
  have BE8 := Lib.hid be8
  clear be8 bb8 hb8 BE7 c7_t_0 c7_t_1 c7_t_2 c7_t_3 c7_t_4 l7_t m7_t c7_c_0 c7_c_1 c7_c_2 c7_c_3 c7_c_4 c7_c_5 c7_c_6 c7_c_7 l7_c m7_c HT7 HC7 HL7 HM7 HH7 HE7
  go_wp2_with fail
  go_ret
  exact ⟨rfl, (by have q := BE8.out; repeat (first | exact q | refine Below.setCell ?_ (by first | (simp; done) | omega | (simp; omega)) _ | refine Below.alloc ?_ (by first | (simp; done) | omega | (simp; omega)) _ | refine below_drewN ?_ _ | refine Below.drew ?_))⟩
set_option maxRecDepth 100000 in
set_option maxHeartbeats 1600000 in
theorem bo_k2 (t : Dl.T) (c : Cal) (q1 q2 q3 : Option Addr) (cap1 cap2 cap3 : Nat) (lo mid hi : List Wh) (a b : Int) (d h : Int) (ok : Bool) (w : World) (ht : TAt w t) (hn : LenOK t) (hc : CalIn w c) (hl : EvAt w q1 lo) (hm : EvAt w q2 mid) (hh : EvAt w q3 hi) (he : Env w) (hs : smallB t lo = true) (hs2 : smallB t hi = true) (hln : lo.length ≤ 40) (hlh : hi.length ≤ 40) (hb : boundsS t c lo hi = (a, b, true, 0)) (ha : evalS t c lo = (a, true, 0)) (hd : evalS t c hi = (b, true, 0)) (hab : a ≤ b) (hf : evalS t c mid = (d, ok, h)) (hlm : mid.length ≤ 40) (ho1 : ordL lo mid = true) (ho2 : ordL mid hi = false) :
    Calls Tryd.prog 4 #[.agg #[.int .i64 t.kd, .int .i64 t.n, .int .i64 t.ev, .bool t.bz, .slice t.p t.kids.length t.cap], .agg #[.bool c.b0, .bool c.b1, .bool c.b2, .bool c.b3, .bool c.b4, .bool c.b5, .bool c.b6, .slice c.p c.hs.length c.cap], .slice q1 lo.length cap1, .slice q2 mid.length cap2, .slice q3 hi.length cap3] w fun e w' => e = .returned (.bool true) ∧ Below w.heap.size w w' := by
  have HT0 := Lib.hid ht
  clear ht
  have HC0 := Lib.hid hc
  clear hc
  have HL0 := Lib.hid hl
  clear hl
  have HM0 := Lib.hid hm
  clear hm
  have HH0 := Lib.hid hh
  clear hh
  have HE0 := Lib.hid he
  clear he
  have HN := Lib.hid hn
  clear hn
  have hba : decide (b < a) = false := decide_eq_false (by omega)
  have HS := Lib.hid hs
  clear hs
  have HS2 := Lib.hid hs2
  clear hs2
  have HB := Lib.hid hb
  clear hb
  have HA := Lib.hid ha
  clear ha
  have HD := Lib.hid hd
  clear hd
  have HF := Lib.hid hf
  clear hf
  have HO1 := Lib.hid ho1
  clear ho1
  have HO2 := Lib.hid ho2
  clear ho2
  go_enter Tryd.func4, Tryd.ntmps4
  go_wp2_with fail
  refine (head_any _ (HE0.out.below (by repeat (first | exact Below.refl _ _ | assumption | refine below_drewN ?_ _ | refine Below.setCell ?_ (by first | (simp; done) | (simp; omega)) _ | refine Below.alloc ?_ (by first | (simp; done) | (simp; omega) | omega) _ | refine Below.drew ?_ | refine Below.trans ?_ (Below.mono (by assumption) (by first | (simp; done) | (simp; omega) | omega)))))).mono ?_
  rintro e w1 ⟨rfl, hb1⟩
  have hz1 := hb1.size
  (try simp at hz1)
  have bb1 : Below w.heap.size w w1 := (by repeat (first | exact Below.refl _ _ | assumption | refine below_drewN ?_ _ | refine Below.setCell ?_ (by first | (simp; done) | (simp; omega)) _ | refine Below.alloc ?_ (by first | (simp; done) | (simp; omega) | omega) _ | refine Below.drew ?_ | refine Below.trans ?_ (Below.mono (by assumption) (by first | (simp; done) | (simp; omega) | omega))))
  have be1 : Below w.heap.size w w1 := bb1
  have c1_t_0 : w1.cell? ⟨w.heap.size, 0, none⟩ = some (.int .i64 t.kd) := cell_keep hb1 (by go_simp)
  have c1_t_1 : w1.cell? ⟨w.heap.size, 1, none⟩ = some (.int .i64 t.n) := cell_keep hb1 (by go_simp)
  have c1_t_2 : w1.cell? ⟨w.heap.size, 2, none⟩ = some (.int .i64 t.ev) := cell_keep hb1 (by go_simp)
  have c1_t_3 : w1.cell? ⟨w.heap.size, 3, none⟩ = some (.bool t.bz) := cell_keep hb1 (by go_simp)
  have c1_t_4 : w1.cell? ⟨w.heap.size, 4, none⟩ = some (.slice t.p t.kids.length t.cap) := cell_keep hb1 (by go_simp)
  have l1_t : w.heap.size < w1.heap.size := by omega
  have m1_t : w.heap.size < w1.heap.size + 1 := by omega
  have c1_c_0 : w1.cell? ⟨w.heap.size + 1, 0, none⟩ = some (.bool c.b0) := cell_keep hb1 (by go_simp)
  have c1_c_1 : w1.cell? ⟨w.heap.size + 1, 1, none⟩ = some (.bool c.b1) := cell_keep hb1 (by go_simp)
  have c1_c_2 : w1.cell? ⟨w.heap.size + 1, 2, none⟩ = some (.bool c.b2) := cell_keep hb1 (by go_simp)
  have c1_c_3 : w1.cell? ⟨w.heap.size + 1, 3, none⟩ = some (.bool c.b3) := cell_keep hb1 (by go_simp)
  have c1_c_4 : w1.cell? ⟨w.heap.size + 1, 4, none⟩ = some (.bool c.b4) := cell_keep hb1 (by go_simp)
  have c1_c_5 : w1.cell? ⟨w.heap.size + 1, 5, none⟩ = some (.bool c.b5) := cell_keep hb1 (by go_simp)
  have c1_c_6 : w1.cell? ⟨w.heap.size + 1, 6, none⟩ = some (.bool c.b6) := cell_keep hb1 (by go_simp)
  have c1_c_7 : w1.cell? ⟨w.heap.size + 1, 7, none⟩ = some (.slice c.p c.hs.length c.cap) := cell_keep hb1 (by go_simp)
  have l1_c : w.heap.size + 1 < w1.heap.size := by omega
  have m1_c : w.heap.size + 1 < w1.heap.size + 1 := by omega
  have HT1 := Lib.hid (HT0.out.below bb1)
  have HC1 := Lib.hid (HC0.out.below bb1)
  have HL1 := Lib.hid (HL0.out.below bb1)
  have HM1 := Lib.hid (HM0.out.below bb1)
  have HH1 := Lib.hid (HH0.out.below bb1)
  have HE1 := Lib.hid (HE0.out.below bb1)
  have BE1 := Lib.hid be1
  clear be1 bb1 hb1 HT0 HC0 HL0 HM0 HH0 HE0
  go_wp2_with fail
  refine (small_any t q1 lo cap1 _ HN.out (HT1.out.below (by repeat (first | exact Below.refl _ _ | assumption | refine below_drewN ?_ _ | refine Below.setCell ?_ (by first | (simp; done) | (simp; omega)) _ | refine Below.alloc ?_ (by first | (simp; done) | (simp; omega) | omega) _ | refine Below.drew ?_ | refine Below.trans ?_ (Below.mono (by assumption) (by first | (simp; done) | (simp; omega) | omega)))))).mono ?_
  rintro e w2 ⟨rfl, hb2⟩
  rw [HS.out]
  have hz2 := hb2.size
  (try simp at hz2)
  have bb2 : Below w1.heap.size w1 w2 := (by repeat (first | exact Below.refl _ _ | assumption | refine below_drewN ?_ _ | refine Below.setCell ?_ (by first | (simp; done) | (simp; omega)) _ | refine Below.alloc ?_ (by first | (simp; done) | (simp; omega) | omega) _ | refine Below.drew ?_ | refine Below.trans ?_ (Below.mono (by assumption) (by first | (simp; done) | (simp; omega) | omega))))
  have be2 : Below w.heap.size w w2 := BE1.out.trans (bb2.mono BE1.out.size)
  have c2_t_0 : w2.cell? ⟨w.heap.size, 0, none⟩ = some (.int .i64 t.kd) := cell_keep bb2 c1_t_0
  have c2_t_1 : w2.cell? ⟨w.heap.size, 1, none⟩ = some (.int .i64 t.n) := cell_keep bb2 c1_t_1
  have c2_t_2 : w2.cell? ⟨w.heap.size, 2, none⟩ = some (.int .i64 t.ev) := cell_keep bb2 c1_t_2
  have c2_t_3 : w2.cell? ⟨w.heap.size, 3, none⟩ = some (.bool t.bz) := cell_keep bb2 c1_t_3
  have c2_t_4 : w2.cell? ⟨w.heap.size, 4, none⟩ = some (.slice t.p t.kids.length t.cap) := cell_keep bb2 c1_t_4
  have l2_t : w.heap.size < w2.heap.size := by omega
  have m2_t : w.heap.size < w2.heap.size + 1 := by omega
  have c2_c_0 : w2.cell? ⟨w.heap.size + 1, 0, none⟩ = some (.bool c.b0) := cell_keep bb2 c1_c_0
  have c2_c_1 : w2.cell? ⟨w.heap.size + 1, 1, none⟩ = some (.bool c.b1) := cell_keep bb2 c1_c_1
  have c2_c_2 : w2.cell? ⟨w.heap.size + 1, 2, none⟩ = some (.bool c.b2) := cell_keep bb2 c1_c_2
  have c2_c_3 : w2.cell? ⟨w.heap.size + 1, 3, none⟩ = some (.bool c.b3) := cell_keep bb2 c1_c_3
  have c2_c_4 : w2.cell? ⟨w.heap.size + 1, 4, none⟩ = some (.bool c.b4) := cell_keep bb2 c1_c_4
  have c2_c_5 : w2.cell? ⟨w.heap.size + 1, 5, none⟩ = some (.bool c.b5) := cell_keep bb2 c1_c_5
  have c2_c_6 : w2.cell? ⟨w.heap.size + 1, 6, none⟩ = some (.bool c.b6) := cell_keep bb2 c1_c_6
  have c2_c_7 : w2.cell? ⟨w.heap.size + 1, 7, none⟩ = some (.slice c.p c.hs.length c.cap) := cell_keep bb2 c1_c_7
  have l2_c : w.heap.size + 1 < w2.heap.size := by omega
  have m2_c : w.heap.size + 1 < w2.heap.size + 1 := by omega
  have HT2 := Lib.hid (HT1.out.below bb2)
  have HC2 := Lib.hid (HC1.out.below bb2)
  have HL2 := Lib.hid (HL1.out.below bb2)
  have HM2 := Lib.hid (HM1.out.below bb2)
  have HH2 := Lib.hid (HH1.out.below bb2)
  have HE2 := Lib.hid (HE1.out.below bb2)
  have BE2 := Lib.hid be2
  clear be2 bb2 hb2 BE1 c1_t_0 c1_t_1 c1_t_2 c1_t_3 c1_t_4 l1_t m1_t c1_c_0 c1_c_1 c1_c_2 c1_c_3 c1_c_4 c1_c_5 c1_c_6 c1_c_7 l1_c m1_c HT1 HC1 HL1 HM1 HH1 HE1
  go_wp2_with fail
  refine (small_any t q3 hi cap3 _ HN.out (HT2.out.below (by repeat (first | exact Below.refl _ _ | assumption | refine below_drewN ?_ _ | refine Below.setCell ?_ (by first | (simp; done) | (simp; omega)) _ | refine Below.alloc ?_ (by first | (simp; done) | (simp; omega) | omega) _ | refine Below.drew ?_ | refine Below.trans ?_ (Below.mono (by assumption) (by first | (simp; done) | (simp; omega) | omega)))))).mono ?_
  rintro e w3 ⟨rfl, hb3⟩
  rw [HS2.out]
  have hz3 := hb3.size
  (try simp at hz3)
  have bb3 : Below w2.heap.size w2 w3 := (by repeat (first | exact Below.refl _ _ | assumption | refine below_drewN ?_ _ | refine Below.setCell ?_ (by first | (simp; done) | (simp; omega)) _ | refine Below.alloc ?_ (by first | (simp; done) | (simp; omega) | omega) _ | refine Below.drew ?_ | refine Below.trans ?_ (Below.mono (by assumption) (by first | (simp; done) | (simp; omega) | omega))))
  have be3 : Below w.heap.size w w3 := BE2.out.trans (bb3.mono BE2.out.size)
  have c3_t_0 : w3.cell? ⟨w.heap.size, 0, none⟩ = some (.int .i64 t.kd) := cell_keep bb3 c2_t_0
  have c3_t_1 : w3.cell? ⟨w.heap.size, 1, none⟩ = some (.int .i64 t.n) := cell_keep bb3 c2_t_1
  have c3_t_2 : w3.cell? ⟨w.heap.size, 2, none⟩ = some (.int .i64 t.ev) := cell_keep bb3 c2_t_2
  have c3_t_3 : w3.cell? ⟨w.heap.size, 3, none⟩ = some (.bool t.bz) := cell_keep bb3 c2_t_3
  have c3_t_4 : w3.cell? ⟨w.heap.size, 4, none⟩ = some (.slice t.p t.kids.length t.cap) := cell_keep bb3 c2_t_4
  have l3_t : w.heap.size < w3.heap.size := by omega
  have m3_t : w.heap.size < w3.heap.size + 1 := by omega
  have c3_c_0 : w3.cell? ⟨w.heap.size + 1, 0, none⟩ = some (.bool c.b0) := cell_keep bb3 c2_c_0
  have c3_c_1 : w3.cell? ⟨w.heap.size + 1, 1, none⟩ = some (.bool c.b1) := cell_keep bb3 c2_c_1
  have c3_c_2 : w3.cell? ⟨w.heap.size + 1, 2, none⟩ = some (.bool c.b2) := cell_keep bb3 c2_c_2
  have c3_c_3 : w3.cell? ⟨w.heap.size + 1, 3, none⟩ = some (.bool c.b3) := cell_keep bb3 c2_c_3
  have c3_c_4 : w3.cell? ⟨w.heap.size + 1, 4, none⟩ = some (.bool c.b4) := cell_keep bb3 c2_c_4
  have c3_c_5 : w3.cell? ⟨w.heap.size + 1, 5, none⟩ = some (.bool c.b5) := cell_keep bb3 c2_c_5
  have c3_c_6 : w3.cell? ⟨w.heap.size + 1, 6, none⟩ = some (.bool c.b6) := cell_keep bb3 c2_c_6
  have c3_c_7 : w3.cell? ⟨w.heap.size + 1, 7, none⟩ = some (.slice c.p c.hs.length c.cap) := cell_keep bb3 c2_c_7
  have l3_c : w.heap.size + 1 < w3.heap.size := by omega
  have m3_c : w.heap.size + 1 < w3.heap.size + 1 := by omega
  have HT3 := Lib.hid (HT2.out.below bb3)
  have HC3 := Lib.hid (HC2.out.below bb3)
  have HL3 := Lib.hid (HL2.out.below bb3)
  have HM3 := Lib.hid (HM2.out.below bb3)
  have HH3 := Lib.hid (HH2.out.below bb3)
  have HE3 := Lib.hid (HE2.out.below bb3)
  have BE3 := Lib.hid be3
  clear be3 bb3 hb3 BE2 c2_t_0 c2_t_1 c2_t_2 c2_t_3 c2_t_4 l2_t m2_t c2_c_0 c2_c_1 c2_c_2 c2_c_3 c2_c_4 c2_c_5 c2_c_6 c2_c_7 l2_c m2_c HT2 HC2 HL2 HM2 HH2 HE2
  go_wp2_with fail
  refine (bounds_at t c q1 q3 cap1 cap3 lo hi _ (HT3.out.below (by repeat (first | exact Below.refl _ _ | assumption | refine below_drewN ?_ _ | refine Below.setCell ?_ (by first | (simp; done) | (simp; omega)) _ | refine Below.alloc ?_ (by first | (simp; done) | (simp; omega) | omega) _ | refine Below.drew ?_ | refine Below.trans ?_ (Below.mono (by assumption) (by first | (simp; done) | (simp; omega) | omega))))) (HC3.out.below (by repeat (first | exact Below.refl _ _ | assumption | refine below_drewN ?_ _ | refine Below.setCell ?_ (by first | (simp; done) | (simp; omega)) _ | refine Below.alloc ?_ (by first | (simp; done) | (simp; omega) | omega) _ | refine Below.drew ?_ | refine Below.trans ?_ (Below.mono (by assumption) (by first | (simp; done) | (simp; omega) | omega))))) (HL3.out.below (by repeat (first | exact Below.refl _ _ | assumption | refine below_drewN ?_ _ | refine Below.setCell ?_ (by first | (simp; done) | (simp; omega)) _ | refine Below.alloc ?_ (by first | (simp; done) | (simp; omega) | omega) _ | refine Below.drew ?_ | refine Below.trans ?_ (Below.mono (by assumption) (by first | (simp; done) | (simp; omega) | omega))))) (HH3.out.below (by repeat (first | exact Below.refl _ _ | assumption | refine below_drewN ?_ _ | refine Below.setCell ?_ (by first | (simp; done) | (simp; omega)) _ | refine Below.alloc ?_ (by first | (simp; done) | (simp; omega) | omega) _ | refine Below.drew ?_ | refine Below.trans ?_ (Below.mono (by assumption) (by first | (simp; done) | (simp; omega) | omega))))) (by omega) (by omega) (HE3.out.below (by repeat (first | exact Below.refl _ _ | assumption | refine below_drewN ?_ _ | refine Below.setCell ?_ (by first | (simp; done) | (simp; omega)) _ | refine Below.alloc ?_ (by first | (simp; done) | (simp; omega) | omega) _ | refine Below.drew ?_ | refine Below.trans ?_ (Below.mono (by assumption) (by first | (simp; done) | (simp; omega) | omega)))))).mono ?_
  rintro e w4 ⟨rfl, hb4⟩
  rw [HB.out]
  simp only [R4]
  have hz4 := hb4.size
  (try simp at hz4)
  have bb4 : Below w3.heap.size w3 w4 := (by repeat (first | exact Below.refl _ _ | assumption | refine below_drewN ?_ _ | refine Below.setCell ?_ (by first | (simp; done) | (simp; omega)) _ | refine Below.alloc ?_ (by first | (simp; done) | (simp; omega) | omega) _ | refine Below.drew ?_ | refine Below.trans ?_ (Below.mono (by assumption) (by first | (simp; done) | (simp; omega) | omega))))
  have be4 : Below w.heap.size w w4 := BE3.out.trans (bb4.mono BE3.out.size)
  have c4_t_0 : w4.cell? ⟨w.heap.size, 0, none⟩ = some (.int .i64 t.kd) := cell_keep bb4 c3_t_0
  have c4_t_1 : w4.cell? ⟨w.heap.size, 1, none⟩ = some (.int .i64 t.n) := cell_keep bb4 c3_t_1
  have c4_t_2 : w4.cell? ⟨w.heap.size, 2, none⟩ = some (.int .i64 t.ev) := cell_keep bb4 c3_t_2
  have c4_t_3 : w4.cell? ⟨w.heap.size, 3, none⟩ = some (.bool t.bz) := cell_keep bb4 c3_t_3
  have c4_t_4 : w4.cell? ⟨w.heap.size, 4, none⟩ = some (.slice t.p t.kids.length t.cap) := cell_keep bb4 c3_t_4
  have l4_t : w.heap.size < w4.heap.size := by omega
  have m4_t : w.heap.size < w4.heap.size + 1 := by omega
  have c4_c_0 : w4.cell? ⟨w.heap.size + 1, 0, none⟩ = some (.bool c.b0) := cell_keep bb4 c3_c_0
  have c4_c_1 : w4.cell? ⟨w.heap.size + 1, 1, none⟩ = some (.bool c.b1) := cell_keep bb4 c3_c_1
  have c4_c_2 : w4.cell? ⟨w.heap.size + 1, 2, none⟩ = some (.bool c.b2) := cell_keep bb4 c3_c_2
  have c4_c_3 : w4.cell? ⟨w.heap.size + 1, 3, none⟩ = some (.bool c.b3) := cell_keep bb4 c3_c_3
  have c4_c_4 : w4.cell? ⟨w.heap.size + 1, 4, none⟩ = some (.bool c.b4) := cell_keep bb4 c3_c_4
  have c4_c_5 : w4.cell? ⟨w.heap.size + 1, 5, none⟩ = some (.bool c.b5) := cell_keep bb4 c3_c_5
  have c4_c_6 : w4.cell? ⟨w.heap.size + 1, 6, none⟩ = some (.bool c.b6) := cell_keep bb4 c3_c_6
  have c4_c_7 : w4.cell? ⟨w.heap.size + 1, 7, none⟩ = some (.slice c.p c.hs.length c.cap) := cell_keep bb4 c3_c_7
  have l4_c : w.heap.size + 1 < w4.heap.size := by omega
  have m4_c : w.heap.size + 1 < w4.heap.size + 1 := by omega
  have HT4 := Lib.hid (HT3.out.below bb4)
  have HC4 := Lib.hid (HC3.out.below bb4)
  have HL4 := Lib.hid (HL3.out.below bb4)
  have HM4 := Lib.hid (HM3.out.below bb4)
  have HH4 := Lib.hid (HH3.out.below bb4)
  have HE4 := Lib.hid (HE3.out.below bb4)
  have BE4 := Lib.hid be4
  clear be4 bb4 hb4 BE3 c3_t_0 c3_t_1 c3_t_2 c3_t_3 c3_t_4 l3_t m3_t c3_c_0 c3_c_1 c3_c_2 c3_c_3 c3_c_4 c3_c_5 c3_c_6 c3_c_7 l3_c m3_c HT3 HC3 HL3 HM3 HH3 HE3
  go_wp2_with fail
  refine (eval_at t c q1 cap1 lo _ (HT4.out.below (by repeat (first | exact Below.refl _ _ | assumption | refine below_drewN ?_ _ | refine Below.setCell ?_ (by first | (simp; done) | (simp; omega)) _ | refine Below.alloc ?_ (by first | (simp; done) | (simp; omega) | omega) _ | refine Below.drew ?_ | refine Below.trans ?_ (Below.mono (by assumption) (by first | (simp; done) | (simp; omega) | omega))))) (HC4.out.below (by repeat (first | exact Below.refl _ _ | assumption | refine below_drewN ?_ _ | refine Below.setCell ?_ (by first | (simp; done) | (simp; omega)) _ | refine Below.alloc ?_ (by first | (simp; done) | (simp; omega) | omega) _ | refine Below.drew ?_ | refine Below.trans ?_ (Below.mono (by assumption) (by first | (simp; done) | (simp; omega) | omega))))) (HL4.out.below (by repeat (first | exact Below.refl _ _ | assumption | refine below_drewN ?_ _ | refine Below.setCell ?_ (by first | (simp; done) | (simp; omega)) _ | refine Below.alloc ?_ (by first | (simp; done) | (simp; omega) | omega) _ | refine Below.drew ?_ | refine Below.trans ?_ (Below.mono (by assumption) (by first | (simp; done) | (simp; omega) | omega))))) (by omega) (HE4.out.below (by repeat (first | exact Below.refl _ _ | assumption | refine below_drewN ?_ _ | refine Below.setCell ?_ (by first | (simp; done) | (simp; omega)) _ | refine Below.alloc ?_ (by first | (simp; done) | (simp; omega) | omega) _ | refine Below.drew ?_ | refine Below.trans ?_ (Below.mono (by assumption) (by first | (simp; done) | (simp; omega) | omega)))))).mono ?_
  rintro e w5 ⟨rfl, hb5⟩
  rw [HA.out]
  simp only [R3]
  have hz5 := hb5.size
  (try simp at hz5)
  have bb5 : Below w4.heap.size w4 w5 := (by repeat (first | exact Below.refl _ _ | assumption | refine below_drewN ?_ _ | refine Below.setCell ?_ (by first | (simp; done) | (simp; omega)) _ | refine Below.alloc ?_ (by first | (simp; done) | (simp; omega) | omega) _ | refine Below.drew ?_ | refine Below.trans ?_ (Below.mono (by assumption) (by first | (simp; done) | (simp; omega) | omega))))
  have be5 : Below w.heap.size w w5 := BE4.out.trans (bb5.mono BE4.out.size)
  have c5_t_0 : w5.cell? ⟨w.heap.size, 0, none⟩ = some (.int .i64 t.kd) := cell_keep bb5 c4_t_0
  have c5_t_1 : w5.cell? ⟨w.heap.size, 1, none⟩ = some (.int .i64 t.n) := cell_keep bb5 c4_t_1
  have c5_t_2 : w5.cell? ⟨w.heap.size, 2, none⟩ = some (.int .i64 t.ev) := cell_keep bb5 c4_t_2
  have c5_t_3 : w5.cell? ⟨w.heap.size, 3, none⟩ = some (.bool t.bz) := cell_keep bb5 c4_t_3
  have c5_t_4 : w5.cell? ⟨w.heap.size, 4, none⟩ = some (.slice t.p t.kids.length t.cap) := cell_keep bb5 c4_t_4
  have l5_t : w.heap.size < w5.heap.size := by omega
  have m5_t : w.heap.size < w5.heap.size + 1 := by omega
  have c5_c_0 : w5.cell? ⟨w.heap.size + 1, 0, none⟩ = some (.bool c.b0) := cell_keep bb5 c4_c_0
  have c5_c_1 : w5.cell? ⟨w.heap.size + 1, 1, none⟩ = some (.bool c.b1) := cell_keep bb5 c4_c_1
  have c5_c_2 : w5.cell? ⟨w.heap.size + 1, 2, none⟩ = some (.bool c.b2) := cell_keep bb5 c4_c_2
  have c5_c_3 : w5.cell? ⟨w.heap.size + 1, 3, none⟩ = some (.bool c.b3) := cell_keep bb5 c4_c_3
  have c5_c_4 : w5.cell? ⟨w.heap.size + 1, 4, none⟩ = some (.bool c.b4) := cell_keep bb5 c4_c_4
  have c5_c_5 : w5.cell? ⟨w.heap.size + 1, 5, none⟩ = some (.bool c.b5) := cell_keep bb5 c4_c_5
  have c5_c_6 : w5.cell? ⟨w.heap.size + 1, 6, none⟩ = some (.bool c.b6) := cell_keep bb5 c4_c_6
  have c5_c_7 : w5.cell? ⟨w.heap.size + 1, 7, none⟩ = some (.slice c.p c.hs.length c.cap) := cell_keep bb5 c4_c_7
  have l5_c : w.heap.size + 1 < w5.heap.size := by omega
  have m5_c : w.heap.size + 1 < w5.heap.size + 1 := by omega
  have HT5 := Lib.hid (HT4.out.below bb5)
  have HC5 := Lib.hid (HC4.out.below bb5)
  have HL5 := Lib.hid (HL4.out.below bb5)
  have HM5 := Lib.hid (HM4.out.below bb5)
  have HH5 := Lib.hid (HH4.out.below bb5)
  have HE5 := Lib.hid (HE4.out.below bb5)
  have BE5 := Lib.hid be5
  clear be5 bb5 hb5 BE4 c4_t_0 c4_t_1 c4_t_2 c4_t_3 c4_t_4 l4_t m4_t c4_c_0 c4_c_1 c4_c_2 c4_c_3 c4_c_4 c4_c_5 c4_c_6 c4_c_7 l4_c m4_c HT4 HC4 HL4 HM4 HH4 HE4
  go_wp2_with fail
  refine (eval_at t c q3 cap3 hi _ (HT5.out.below (by repeat (first | exact Below.refl _ _ | assumption | refine below_drewN ?_ _ | refine Below.setCell ?_ (by first | (simp; done) | (simp; omega)) _ | refine Below.alloc ?_ (by first | (simp; done) | (simp; omega) | omega) _ | refine Below.drew ?_ | refine Below.trans ?_ (Below.mono (by assumption) (by first | (simp; done) | (simp; omega) | omega))))) (HC5.out.below (by repeat (first | exact Below.refl _ _ | assumption | refine below_drewN ?_ _ | refine Below.setCell ?_ (by first | (simp; done) | (simp; omega)) _ | refine Below.alloc ?_ (by first | (simp; done) | (simp; omega) | omega) _ | refine Below.drew ?_ | refine Below.trans ?_ (Below.mono (by assumption) (by first | (simp; done) | (simp; omega) | omega))))) (HH5.out.below (by repeat (first | exact Below.refl _ _ | assumption | refine below_drewN ?_ _ | refine Below.setCell ?_ (by first | (simp; done) | (simp; omega)) _ | refine Below.alloc ?_ (by first | (simp; done) | (simp; omega) | omega) _ | refine Below.drew ?_ | refine Below.trans ?_ (Below.mono (by assumption) (by first | (simp; done) | (simp; omega) | omega))))) (by omega) (HE5.out.below (by repeat (first | exact Below.refl _ _ | assumption | refine below_drewN ?_ _ | refine Below.setCell ?_ (by first | (simp; done) | (simp; omega)) _ | refine Below.alloc ?_ (by first | (simp; done) | (simp; omega) | omega) _ | refine Below.drew ?_ | refine Below.trans ?_ (Below.mono (by assumption) (by first | (simp; done) | (simp; omega) | omega)))))).mono ?_
  rintro e w6 ⟨rfl, hb6⟩
  rw [HD.out]
  simp only [R3]
  have hz6 := hb6.size
  (try simp at hz6)
  have bb6 : Below w5.heap.size w5 w6 := (by repeat (first | exact Below.refl _ _ | assumption | refine below_drewN ?_ _ | refine Below.setCell ?_ (by first | (simp; done) | (simp; omega)) _ | refine Below.alloc ?_ (by first | (simp; done) | (simp; omega) | omega) _ | refine Below.drew ?_ | refine Below.trans ?_ (Below.mono (by assumption) (by first | (simp; done) | (simp; omega) | omega))))
  have be6 : Below w.heap.size w w6 := BE5.out.trans (bb6.mono BE5.out.size)
  have c6_t_0 : w6.cell? ⟨w.heap.size, 0, none⟩ = some (.int .i64 t.kd) := cell_keep bb6 c5_t_0
  have c6_t_1 : w6.cell? ⟨w.heap.size, 1, none⟩ = some (.int .i64 t.n) := cell_keep bb6 c5_t_1
  have c6_t_2 : w6.cell? ⟨w.heap.size, 2, none⟩ = some (.int .i64 t.ev) := cell_keep bb6 c5_t_2
  have c6_t_3 : w6.cell? ⟨w.heap.size, 3, none⟩ = some (.bool t.bz) := cell_keep bb6 c5_t_3
  have c6_t_4 : w6.cell? ⟨w.heap.size, 4, none⟩ = some (.slice t.p t.kids.length t.cap) := cell_keep bb6 c5_t_4
  have l6_t : w.heap.size < w6.heap.size := by omega
  have m6_t : w.heap.size < w6.heap.size + 1 := by omega
  have c6_c_0 : w6.cell? ⟨w.heap.size + 1, 0, none⟩ = some (.bool c.b0) := cell_keep bb6 c5_c_0
  have c6_c_1 : w6.cell? ⟨w.heap.size + 1, 1, none⟩ = some (.bool c.b1) := cell_keep bb6 c5_c_1
  have c6_c_2 : w6.cell? ⟨w.heap.size + 1, 2, none⟩ = some (.bool c.b2) := cell_keep bb6 c5_c_2
  have c6_c_3 : w6.cell? ⟨w.heap.size + 1, 3, none⟩ = some (.bool c.b3) := cell_keep bb6 c5_c_3
  have c6_c_4 : w6.cell? ⟨w.heap.size + 1, 4, none⟩ = some (.bool c.b4) := cell_keep bb6 c5_c_4
  have c6_c_5 : w6.cell? ⟨w.heap.size + 1, 5, none⟩ = some (.bool c.b5) := cell_keep bb6 c5_c_5
  have c6_c_6 : w6.cell? ⟨w.heap.size + 1, 6, none⟩ = some (.bool c.b6) := cell_keep bb6 c5_c_6
  have c6_c_7 : w6.cell? ⟨w.heap.size + 1, 7, none⟩ = some (.slice c.p c.hs.length c.cap) := cell_keep bb6 c5_c_7
  have l6_c : w.heap.size + 1 < w6.heap.size := by omega
  have m6_c : w.heap.size + 1 < w6.heap.size + 1 := by omega
  have HT6 := Lib.hid (HT5.out.below bb6)
  have HC6 := Lib.hid (HC5.out.below bb6)
  have HL6 := Lib.hid (HL5.out.below bb6)
  have HM6 := Lib.hid (HM5.out.below bb6)
  have HH6 := Lib.hid (HH5.out.below bb6)
  have HE6 := Lib.hid (HE5.out.below bb6)
  have BE6 := Lib.hid be6
  clear be6 bb6 hb6 BE5 c5_t_0 c5_t_1 c5_t_2 c5_t_3 c5_t_4 l5_t m5_t c5_c_0 c5_c_1 c5_c_2 c5_c_3 c5_c_4 c5_c_5 c5_c_6 c5_c_7 l5_c m5_c HT5 HC5 HL5 HM5 HH5 HE5
  go_wp2_with fail
  refine (eval_wide t c q2 cap2 mid _ (HT6.out.below (by repeat (first | exact Below.refl _ _ | assumption | refine below_drewN ?_ _ | refine Below.setCell ?_ (by first | (simp; done) | (simp; omega)) _ | refine Below.alloc ?_ (by first | (simp; done) | (simp; omega) | omega) _ | refine Below.drew ?_ | refine Below.trans ?_ (Below.mono (by assumption) (by first | (simp; done) | (simp; omega) | omega))))) (HC6.out.below (by repeat (first | exact Below.refl _ _ | assumption | refine below_drewN ?_ _ | refine Below.setCell ?_ (by first | (simp; done) | (simp; omega)) _ | refine Below.alloc ?_ (by first | (simp; done) | (simp; omega) | omega) _ | refine Below.drew ?_ | refine Below.trans ?_ (Below.mono (by assumption) (by first | (simp; done) | (simp; omega) | omega))))) (HM6.out.below (by repeat (first | exact Below.refl _ _ | assumption | refine below_drewN ?_ _ | refine Below.setCell ?_ (by first | (simp; done) | (simp; omega)) _ | refine Below.alloc ?_ (by first | (simp; done) | (simp; omega) | omega) _ | refine Below.drew ?_ | refine Below.trans ?_ (Below.mono (by assumption) (by first | (simp; done) | (simp; omega) | omega))))) (HE6.out.below (by repeat (first | exact Below.refl _ _ | assumption | refine below_drewN ?_ _ | refine Below.setCell ?_ (by first | (simp; done) | (simp; omega)) _ | refine Below.alloc ?_ (by first | (simp; done) | (simp; omega) | omega) _ | refine Below.drew ?_ | refine Below.trans ?_ (Below.mono (by assumption) (by first | (simp; done) | (simp; omega) | omega)))))).mono ?_
  rintro e w7 ⟨rfl, hb7⟩
  rw [HF.out]
  simp only [R3]
  have hz7 := hb7.size
  (try simp at hz7)
  have bb7 : Below w6.heap.size w6 w7 := (by repeat (first | exact Below.refl _ _ | assumption | refine below_drewN ?_ _ | refine Below.setCell ?_ (by first | (simp; done) | (simp; omega)) _ | refine Below.alloc ?_ (by first | (simp; done) | (simp; omega) | omega) _ | refine Below.drew ?_ | refine Below.trans ?_ (Below.mono (by assumption) (by first | (simp; done) | (simp; omega) | omega))))
  have be7 : Below w.heap.size w w7 := BE6.out.trans (bb7.mono BE6.out.size)
  have c7_t_0 : w7.cell? ⟨w.heap.size, 0, none⟩ = some (.int .i64 t.kd) := cell_keep bb7 c6_t_0
  have c7_t_1 : w7.cell? ⟨w.heap.size, 1, none⟩ = some (.int .i64 t.n) := cell_keep bb7 c6_t_1
  have c7_t_2 : w7.cell? ⟨w.heap.size, 2, none⟩ = some (.int .i64 t.ev) := cell_keep bb7 c6_t_2
  have c7_t_3 : w7.cell? ⟨w.heap.size, 3, none⟩ = some (.bool t.bz) := cell_keep bb7 c6_t_3
  have c7_t_4 : w7.cell? ⟨w.heap.size, 4, none⟩ = some (.slice t.p t.kids.length t.cap) := cell_keep bb7 c6_t_4
  have l7_t : w.heap.size < w7.heap.size := by omega
  have m7_t : w.heap.size < w7.heap.size + 1 := by omega
  have c7_c_0 : w7.cell? ⟨w.heap.size + 1, 0, none⟩ = some (.bool c.b0) := cell_keep bb7 c6_c_0
  have c7_c_1 : w7.cell? ⟨w.heap.size + 1, 1, none⟩ = some (.bool c.b1) := cell_keep bb7 c6_c_1
  have c7_c_2 : w7.cell? ⟨w.heap.size + 1, 2, none⟩ = some (.bool c.b2) := cell_keep bb7 c6_c_2
  have c7_c_3 : w7.cell? ⟨w.heap.size + 1, 3, none⟩ = some (.bool c.b3) := cell_keep bb7 c6_c_3
  have c7_c_4 : w7.cell? ⟨w.heap.size + 1, 4, none⟩ = some (.bool c.b4) := cell_keep bb7 c6_c_4
  have c7_c_5 : w7.cell? ⟨w.heap.size + 1, 5, none⟩ = some (.bool c.b5) := cell_keep bb7 c6_c_5
  have c7_c_6 : w7.cell? ⟨w.heap.size + 1, 6, none⟩ = some (.bool c.b6) := cell_keep bb7 c6_c_6
  have c7_c_7 : w7.cell? ⟨w.heap.size + 1, 7, none⟩ = some (.slice c.p c.hs.length c.cap) := cell_keep bb7 c6_c_7
  have l7_c : w.heap.size + 1 < w7.heap.size := by omega
  have m7_c : w.heap.size + 1 < w7.heap.size + 1 := by omega
  have HT7 := Lib.hid (HT6.out.below bb7)
  have HC7 := Lib.hid (HC6.out.below bb7)
  have HL7 := Lib.hid (HL6.out.below bb7)
  have HM7 := Lib.hid (HM6.out.below bb7)
  have HH7 := Lib.hid (HH6.out.below bb7)
  have HE7 := Lib.hid (HE6.out.below bb7)
  have BE7 := Lib.hid be7
  clear be7 bb7 hb7 BE6 c6_t_0 c6_t_1 c6_t_2 c6_t_3 c6_t_4 l6_t m6_t c6_c_0 c6_c_1 c6_c_2 c6_c_3 c6_c_4 c6_c_5 c6_c_6 c6_c_7 l6_c m6_c HT6 HC6 HL6 HM6 HH6 HE6
  go_wp2_with fail
  refine (ordered_calls q1 q2 cap1 cap2 lo mid _ (by omega) (HL7.out.below (by repeat (first | exact Below.refl _ _ | assumption | refine below_drewN ?_ _ | refine Below.setCell ?_ (by first | (simp; done) | (simp; omega)) _ | refine Below.alloc ?_ (by first | (simp; done) | (simp; omega) | omega) _ | refine Below.drew ?_ | refine Below.trans ?_ (Below.mono (by assumption) (by first | (simp; done) | (simp; omega) | omega))))) (HM7.out.below (by repeat (first | exact Below.refl _ _ | assumption | refine below_drewN ?_ _ | refine Below.setCell ?_ (by first | (simp; done) | (simp; omega)) _ | refine Below.alloc ?_ (by first | (simp; done) | (simp; omega) | omega) _ | refine Below.drew ?_ | refine Below.trans ?_ (Below.mono (by assumption) (by first | (simp; done) | (simp; omega) | omega)))))).mono ?_
  rintro e w8 ⟨rfl, hb8⟩
  rw [HO1.out]
  have hz8 := hb8.size
  (try simp at hz8)
  have bb8 : Below w7.heap.size w7 w8 := (by repeat (first | exact Below.refl _ _ | assumption | refine below_drewN ?_ _ | refine Below.setCell ?_ (by first | (simp; done) | (simp; omega)) _ | refine Below.alloc ?_ (by first | (simp; done) | (simp; omega) | omega) _ | refine Below.drew ?_ | refine Below.trans ?_ (Below.mono (by assumption) (by first | (simp; done) | (simp; omega) | omega))))
  have be8 : Below w.heap.size w w8 := BE7.out.trans (bb8.mono BE7.out.size)
  have c8_t_0 : w8.cell? ⟨w.heap.size, 0, none⟩ = some (.int .i64 t.kd) := cell_keep bb8 c7_t_0
  have c8_t_1 : w8.cell? ⟨w.heap.size, 1, none⟩ = some (.int .i64 t.n) := cell_keep bb8 c7_t_1
  have c8_t_2 : w8.cell? ⟨w.heap.size, 2, none⟩ = some (.int .i64 t.ev) := cell_keep bb8 c7_t_2
  have c8_t_3 : w8.cell? ⟨w.heap.size, 3, none⟩ = some (.bool t.bz) := cell_keep bb8 c7_t_3
  have c8_t_4 : w8.cell? ⟨w.heap.size, 4, none⟩ = some (.slice t.p t.kids.length t.cap) := cell_keep bb8 c7_t_4
  have l8_t : w.heap.size < w8.heap.size := by omega
  have m8_t : w.heap.size < w8.heap.size + 1 := by omega
  have c8_c_0 : w8.cell? ⟨w.heap.size + 1, 0, none⟩ = some (.bool c.b0) := cell_keep bb8 c7_c_0
  have c8_c_1 : w8.cell? ⟨w.heap.size + 1, 1, none⟩ = some (.bool c.b1) := cell_keep bb8 c7_c_1
  have c8_c_2 : w8.cell? ⟨w.heap.size + 1, 2, none⟩ = some (.bool c.b2) := cell_keep bb8 c7_c_2
  have c8_c_3 : w8.cell? ⟨w.heap.size + 1, 3, none⟩ = some (.bool c.b3) := cell_keep bb8 c7_c_3
  have c8_c_4 : w8.cell? ⟨w.heap.size + 1, 4, none⟩ = some (.bool c.b4) := cell_keep bb8 c7_c_4
  have c8_c_5 : w8.cell? ⟨w.heap.size + 1, 5, none⟩ = some (.bool c.b5) := cell_keep bb8 c7_c_5
  have c8_c_6 : w8.cell? ⟨w.heap.size + 1, 6, none⟩ = some (.bool c.b6) := cell_keep bb8 c7_c_6
  have c8_c_7 : w8.cell? ⟨w.heap.size + 1, 7, none⟩ = some (.slice c.p c.hs.length c.cap) := cell_keep bb8 c7_c_7
  have l8_c : w.heap.size + 1 < w8.heap.size := by omega
  have m8_c : w.heap.size + 1 < w8.heap.size + 1 := by omega
  have HT8 := Lib.hid (HT7.out.below bb8)
  have HC8 := Lib.hid (HC7.out.below bb8)
  have HL8 := Lib.hid (HL7.out.below bb8)
  have HM8 := Lib.hid (HM7.out.below bb8)
  have HH8 := Lib.hid (HH7.out.below bb8)
  have HE8 := Lib.hid (HE7.out.below bb8)
  have BE8 := Lib.hid be8
  clear be8 bb8 hb8 BE7 c7_t_0 c7_t_1 c7_t_2 c7_t_3 c7_t_4 l7_t m7_t c7_c_0 c7_c_1 c7_c_2 c7_c_3 c7_c_4 c7_c_5 c7_c_6 c7_c_7 l7_c m7_c HT7 HC7 HL7 HM7 HH7 HE7
  go_wp2_with fail
  refine (ordered_calls q2 q3 cap2 cap3 mid hi _ (by omega) (HM8.out.below (by repeat (first | exact Below.refl _ _ | assumption | refine below_drewN ?_ _ | refine Below.setCell ?_ (by first | (simp; done) | (simp; omega)) _ | refine Below.alloc ?_ (by first | (simp; done) | (simp; omega) | omega) _ | refine Below.drew ?_ | refine Below.trans ?_ (Below.mono (by assumption) (by first | (simp; done) | (simp; omega) | omega))))) (HH8.out.below (by repeat (first | exact Below.refl _ _ | assumption | refine below_drewN ?_ _ | refine Below.setCell ?_ (by first | (simp; done) | (simp; omega)) _ | refine Below.alloc ?_ (by first | (simp; done) | (simp; omega) | omega) _ | refine Below.drew ?_ | refine Below.trans ?_ (Below.mono (by assumption) (by first | (simp; done) | (simp; omega) | omega)))))).mono ?_
  rintro e w9 ⟨rfl, hb9⟩
  rw [HO2.out]
  have hz9 := hb9.size
  (try simp at hz9)
  have bb9 : Below w8.heap.size w8 w9 := (by repeat (first | exact Below.refl _ _ | assumption | refine below_drewN ?_ _ | refine Below.setCell ?_ (by first | (simp; done) | (simp; omega)) _ | refine Below.alloc ?_ (by first | (simp; done) | (simp; omega) | omega) _ | refine Below.drew ?_ | refine Below.trans ?_ (Below.mono (by assumption) (by first | (simp; done) | (simp; omega) | omega))))
  have be9 : Below w.heap.size w w9 := BE8.out.trans (bb9.mono BE8.out.size)
  have c9_t_0 : w9.cell? ⟨w.heap.size, 0, none⟩ = some (.int .i64 t.kd) := cell_keep bb9 c8_t_0
  have c9_t_1 : w9.cell? ⟨w.heap.size, 1, none⟩ = some (.int .i64 t.n) := cell_keep bb9 c8_t_1
  have c9_t_2 : w9.cell? ⟨w.heap.size, 2, none⟩ = some (.int .i64 t.ev) := cell_keep bb9 c8_t_2
  have c9_t_3 : w9.cell? ⟨w.heap.size, 3, none⟩ = some (.bool t.bz) := cell_keep bb9 c8_t_3
  have c9_t_4 : w9.cell? ⟨w.heap.size, 4, none⟩ = some (.slice t.p t.kids.length t.cap) := cell_keep bb9 c8_t_4
  have l9_t : w.heap.size < w9.heap.size := by omega
  have m9_t : w.heap.size < w9.heap.size + 1 := by omega
  have c9_c_0 : w9.cell? ⟨w.heap.size + 1, 0, none⟩ = some (.bool c.b0) := cell_keep bb9 c8_c_0
  have c9_c_1 : w9.cell? ⟨w.heap.size + 1, 1, none⟩ = some (.bool c.b1) := cell_keep bb9 c8_c_1
  have c9_c_2 : w9.cell? ⟨w.heap.size + 1, 2, none⟩ = some (.bool c.b2) := cell_keep bb9 c8_c_2
  have c9_c_3 : w9.cell? ⟨w.heap.size + 1, 3, none⟩ = some (.bool c.b3) := cell_keep bb9 c8_c_3
  have c9_c_4 : w9.cell? ⟨w.heap.size + 1, 4, none⟩ = some (.bool c.b4) := cell_keep bb9 c8_c_4
  have c9_c_5 : w9.cell? ⟨w.heap.size + 1, 5, none⟩ = some (.bool c.b5) := cell_keep bb9 c8_c_5
  have c9_c_6 : w9.cell? ⟨w.heap.size + 1, 6, none⟩ = some (.bool c.b6) := cell_keep bb9 c8_c_6
  have c9_c_7 : w9.cell? ⟨w.heap.size + 1, 7, none⟩ = some (.slice c.p c.hs.length c.cap) := cell_keep bb9 c8_c_7
  have l9_c : w.heap.size + 1 < w9.heap.size := by omega
  have m9_c : w.heap.size + 1 < w9.heap.size + 1 := by omega
  have HT9 := Lib.hid (HT8.out.below bb9)
  have HC9 := Lib.hid (HC8.out.below bb9)
  have HL9 := Lib.hid (HL8.out.below bb9)
  have HM9 := Lib.hid (HM8.out.below bb9)
  have HH9 := Lib.hid (HH8.out.below bb9)
  have HE9 := Lib.hid (HE8.out.below bb9)
  have BE9 := Lib.hid be9
  clear be9 bb9 hb9 BE8 c8_t_0 c8_t_1 c8_t_2 c8_t_3 c8_t_4 l8_t m8_t c8_c_0 c8_c_1 c8_c_2 c8_c_3 c8_c_4 c8_c_5 c8_c_6 c8_c_7 l8_c m8_c HT8 HC8 HL8 HM8 HH8 HE8
  go_wp2_with fail
  go_ret
  exact ⟨rfl, (by have q := BE9.out; repeat (first | exact q | refine Below.setCell ?_ (by first | (simp; done) | omega | (simp; omega)) _ | refine Below.alloc ?_ (by first | (simp; done) | omega | (simp; omega)) _ | refine below_drewN ?_ _ | refine Below.drew ?_))⟩
set_option maxRecDepth 100000 in
set_option maxHeartbeats 1600000 in
theorem bo_k3 (t : Dl.T) (c : Cal) (q1 q2 q3 : Option Addr) (cap1 cap2 cap3 : Nat) (lo mid hi : List Wh) (a b : Int) (w : World) (ht : TAt w t) (hn : LenOK t) (hc : CalIn w c) (hl : EvAt w q1 lo) (hm : EvAt w q2 mid) (hh : EvAt w q3 hi) (he : Env w) (hs : smallB t lo = true) (hs2 : smallB t hi = true) (hln : lo.length ≤ 40) (hlh : hi.length ≤ 40) (hb : boundsS t c lo hi = (a, b, true, 0)) (ha : evalS t c lo = (a, true, 0)) (hd : evalS t c hi = (b, true, 0)) (hab : a ≤ b) (hf : evalS t c mid = (0, false, 1)) (hlm : mid.length ≤ 40) (ho1 : ordL lo mid = true) (ho2 : ordL mid hi = true) :
    Calls Tryd.prog 4 #[.agg #[.int .i64 t.kd, .int .i64 t.n, .int .i64 t.ev, .bool t.bz, .slice t.p t.kids.length t.cap], .agg #[.bool c.b0, .bool c.b1, .bool c.b2, .bool c.b3, .bool c.b4, .bool c.b5, .bool c.b6, .slice c.p c.hs.length c.cap], .slice q1 lo.length cap1, .slice q2 mid.length cap2, .slice q3 hi.length cap3] w fun e w' => e = .returned (.bool true) ∧ Below w.heap.size w w' := by
  have HT0 := Lib.hid ht
  clear ht
  have HC0 := Lib.hid hc
  clear hc
  have HL0 := Lib.hid hl
  clear hl
  have HM0 := Lib.hid hm
  clear hm
  have HH0 := Lib.hid hh
  clear hh
  have HE0 := Lib.hid he
  clear he
  have HN := Lib.hid hn
  clear hn
  have hba : decide (b < a) = false := decide_eq_false (by omega)
  have HS := Lib.hid hs
  clear hs
  have HS2 := Lib.hid hs2
  clear hs2
  have HB := Lib.hid hb
  clear hb
  have HA := Lib.hid ha
  clear ha
  have HD := Lib.hid hd
  clear hd
  have HF := Lib.hid hf
  clear hf
  have HO1 := Lib.hid ho1
  clear ho1
  have HO2 := Lib.hid ho2
  clear ho2
  go_enter Tryd.func4, Tryd.ntmps4
  go_wp2_with fail
  refine (head_any _ (HE0.out.below (by repeat (first | exact Below.refl _ _ | assumption | refine below_drewN ?_ _ | refine Below.setCell ?_ (by first | (simp; done) | (simp; omega)) _ | refine Below.alloc ?_ (by first | (simp; done) | (simp; omega) | omega) _ | refine Below.drew ?_ | refine Below.trans ?_ (Below.mono (by assumption) (by first | (simp; done) | (simp; omega) | omega)))))).mono ?_
  rintro e w1 ⟨rfl, hb1⟩
  have hz1 := hb1.size
  (try simp at hz1)
  have bb1 : Below w.heap.size w w1 := (by repeat (first | exact Below.refl _ _ | assumption | refine below_drewN ?_ _ | refine Below.setCell ?_ (by first | (simp; done) | (simp; omega)) _ | refine Below.alloc ?_ (by first | (simp; done) | (simp; omega) | omega) _ | refine Below.drew ?_ | refine Below.trans ?_ (Below.mono (by assumption) (by first | (simp; done) | (simp; omega) | omega))))
  have be1 : Below w.heap.size w w1 := bb1
  have c1_t_0 : w1.cell? ⟨w.heap.size, 0, none⟩ = some (.int .i64 t.kd) := cell_keep hb1 (by go_simp)
  have c1_t_1 : w1.cell? ⟨w.heap.size, 1, none⟩ = some (.int .i64 t.n) := cell_keep hb1 (by go_simp)
  have c1_t_2 : w1.cell? ⟨w.heap.size, 2, none⟩ = some (.int .i64 t.ev) := cell_keep hb1 (by go_simp)
  have c1_t_3 : w1.cell? ⟨w.heap.size, 3, none⟩ = some (.bool t.bz) := cell_keep hb1 (by go_simp)
  have c1_t_4 : w1.cell? ⟨w.heap.size, 4, none⟩ = some (.slice t.p t.kids.length t.cap) := cell_keep hb1 (by go_simp)
  have l1_t : w.heap.size < w1.heap.size := by omega
  have m1_t : w.heap.size < w1.heap.size + 1 := by omega
  have c1_c_0 : w1.cell? ⟨w.heap.size + 1, 0, none⟩ = some (.bool c.b0) := cell_keep hb1 (by go_simp)
  have c1_c_1 : w1.cell? ⟨w.heap.size + 1, 1, none⟩ = some (.bool c.b1) := cell_keep hb1 (by go_simp)
  have c1_c_2 : w1.cell? ⟨w.heap.size + 1, 2, none⟩ = some (.bool c.b2) := cell_keep hb1 (by go_simp)
  have c1_c_3 : w1.cell? ⟨w.heap.size + 1, 3, none⟩ = some (.bool c.b3) := cell_keep hb1 (by go_simp)
  have c1_c_4 : w1.cell? ⟨w.heap.size + 1, 4, none⟩ = some (.bool c.b4) := cell_keep hb1 (by go_simp)
  have c1_c_5 : w1.cell? ⟨w.heap.size + 1, 5, none⟩ = some (.bool c.b5) := cell_keep hb1 (by go_simp)
  have c1_c_6 : w1.cell? ⟨w.heap.size + 1, 6, none⟩ = some (.bool c.b6) := cell_keep hb1 (by go_simp)
  have c1_c_7 : w1.cell? ⟨w.heap.size + 1, 7, none⟩ = some (.slice c.p c.hs.length c.cap) := cell_keep hb1 (by go_simp)
  have l1_c : w.heap.size + 1 < w1.heap.size := by omega
  have m1_c : w.heap.size + 1 < w1.heap.size + 1 := by omega
  have HT1 := Lib.hid (HT0.out.below bb1)
  have HC1 := Lib.hid (HC0.out.below bb1)
  have HL1 := Lib.hid (HL0.out.below bb1)
  have HM1 := Lib.hid (HM0.out.below bb1)
  have HH1 := Lib.hid (HH0.out.below bb1)
  have HE1 := Lib.hid (HE0.out.below bb1)
  have BE1 := Lib.hid be1
  clear be1 bb1 hb1 HT0 HC0 HL0 HM0 HH0 HE0
  go_wp2_with fail
  refine (small_any t q1 lo cap1 _ HN.out (HT1.out.below (by repeat (first | exact Below.refl _ _ | assumption | refine below_drewN ?_ _ | refine Below.setCell ?_ (by first | (simp; done) | (simp; omega)) _ | refine Below.alloc ?_ (by first | (simp; done) | (simp; omega) | omega) _ | refine Below.drew ?_ | refine Below.trans ?_ (Below.mono (by assumption) (by first | (simp; done) | (simp; omega) | omega)))))).mono ?_
  rintro e w2 ⟨rfl, hb2⟩
  rw [HS.out]
  have hz2 := hb2.size
  (try simp at hz2)
  have bb2 : Below w1.heap.size w1 w2 := (by repeat (first | exact Below.refl _ _ | assumption | refine below_drewN ?_ _ | refine Below.setCell ?_ (by first | (simp; done) | (simp; omega)) _ | refine Below.alloc ?_ (by first | (simp; done) | (simp; omega) | omega) _ | refine Below.drew ?_ | refine Below.trans ?_ (Below.mono (by assumption) (by first | (simp; done) | (simp; omega) | omega))))
  have be2 : Below w.heap.size w w2 := BE1.out.trans (bb2.mono BE1.out.size)
  have c2_t_0 : w2.cell? ⟨w.heap.size, 0, none⟩ = some (.int .i64 t.kd) := cell_keep bb2 c1_t_0
  have c2_t_1 : w2.cell? ⟨w.heap.size, 1, none⟩ = some (.int .i64 t.n) := cell_keep bb2 c1_t_1
  have c2_t_2 : w2.cell? ⟨w.heap.size, 2, none⟩ = some (.int .i64 t.ev) := cell_keep bb2 c1_t_2
  have c2_t_3 : w2.cell? ⟨w.heap.size, 3, none⟩ = some (.bool t.bz) := cell_keep bb2 c1_t_3
  have c2_t_4 : w2.cell? ⟨w.heap.size, 4, none⟩ = some (.slice t.p t.kids.length t.cap) := cell_keep bb2 c1_t_4
  have l2_t : w.heap.size < w2.heap.size := by omega
  have m2_t : w.heap.size < w2.heap.size + 1 := by omega
  have c2_c_0 : w2.cell? ⟨w.heap.size + 1, 0, none⟩ = some (.bool c.b0) := cell_keep bb2 c1_c_0
  have c2_c_1 : w2.cell? ⟨w.heap.size + 1, 1, none⟩ = some (.bool c.b1) := cell_keep bb2 c1_c_1
  have c2_c_2 : w2.cell? ⟨w.heap.size + 1, 2, none⟩ = some (.bool c.b2) := cell_keep bb2 c1_c_2
  have c2_c_3 : w2.cell? ⟨w.heap.size + 1, 3, none⟩ = some (.bool c.b3) := cell_keep bb2 c1_c_3
  have c2_c_4 : w2.cell? ⟨w.heap.size + 1, 4, none⟩ = some (.bool c.b4) := cell_keep bb2 c1_c_4
  have c2_c_5 : w2.cell? ⟨w.heap.size + 1, 5, none⟩ = some (.bool c.b5) := cell_keep bb2 c1_c_5
  have c2_c_6 : w2.cell? ⟨w.heap.size + 1, 6, none⟩ = some (.bool c.b6) := cell_keep bb2 c1_c_6
  have c2_c_7 : w2.cell? ⟨w.heap.size + 1, 7, none⟩ = some (.slice c.p c.hs.length c.cap) := cell_keep bb2 c1_c_7
  have l2_c : w.heap.size + 1 < w2.heap.size := by omega
  have m2_c : w.heap.size + 1 < w2.heap.size + 1 := by omega
  have HT2 := Lib.hid (HT1.out.below bb2)
  have HC2 := Lib.hid (HC1.out.below bb2)
  have HL2 := Lib.hid (HL1.out.below bb2)
  have HM2 := Lib.hid (HM1.out.below bb2)
  have HH2 := Lib.hid (HH1.out.below bb2)
  have HE2 := Lib.hid (HE1.out.below bb2)
  have BE2 := Lib.hid be2
  clear be2 bb2 hb2 BE1 c1_t_0 c1_t_1 c1_t_2 c1_t_3 c1_t_4 l1_t m1_t c1_c_0 c1_c_1 c1_c_2 c1_c_3 c1_c_4 c1_c_5 c1_c_6 c1_c_7 l1_c m1_c HT1 HC1 HL1 HM1 HH1 HE1
  go_wp2_with fail
  refine (small_any t q3 hi cap3 _ HN.out (HT2.out.below (by repeat (first | exact Below.refl _ _ | assumption | refine below_drewN ?_ _ | refine Below.setCell ?_ (by first | (simp; done) | (simp; omega)) _ | refine Below.alloc ?_ (by first | (simp; done) | (simp; omega) | omega) _ | refine Below.drew ?_ | refine Below.trans ?_ (Below.mono (by assumption) (by first | (simp; done) | (simp; omega) | omega)))))).mono ?_
  rintro e w3 ⟨rfl, hb3⟩
  rw [HS2.out]
  have hz3 := hb3.size
  (try simp at hz3)
  have bb3 : Below w2.heap.size w2 w3 := (by repeat (first | exact Below.refl _ _ | assumption | refine below_drewN ?_ _ | refine Below.setCell ?_ (by first | (simp; done) | (simp; omega)) _ | refine Below.alloc ?_ (by first | (simp; done) | (simp; omega) | omega) _ | refine Below.drew ?_ | refine Below.trans ?_ (Below.mono (by assumption) (by first | (simp; done) | (simp; omega) | omega))))
  have be3 : Below w.heap.size w w3 := BE2.out.trans (bb3.mono BE2.out.size)
  have c3_t_0 : w3.cell? ⟨w.heap.size, 0, none⟩ = some (.int .i64 t.kd) := cell_keep bb3 c2_t_0
  have c3_t_1 : w3.cell? ⟨w.heap.size, 1, none⟩ = some (.int .i64 t.n) := cell_keep bb3 c2_t_1
  have c3_t_2 : w3.cell? ⟨w.heap.size, 2, none⟩ = some (.int .i64 t.ev) := cell_keep bb3 c2_t_2
  have c3_t_3 : w3.cell? ⟨w.heap.size, 3, none⟩ = some (.bool t.bz) := cell_keep bb3 c2_t_3
  have c3_t_4 : w3.cell? ⟨w.heap.size, 4, none⟩ = some (.slice t.p t.kids.length t.cap) := cell_keep bb3 c2_t_4
  have l3_t : w.heap.size < w3.heap.size := by omega
  have m3_t : w.heap.size < w3.heap.size + 1 := by omega
  have c3_c_0 : w3.cell? ⟨w.heap.size + 1, 0, none⟩ = some (.bool c.b0) := cell_keep bb3 c2_c_0
  have c3_c_1 : w3.cell? ⟨w.heap.size + 1, 1, none⟩ = some (.bool c.b1) := cell_keep bb3 c2_c_1
  have c3_c_2 : w3.cell? ⟨w.heap.size + 1, 2, none⟩ = some (.bool c.b2) := cell_keep bb3 c2_c_2
  have c3_c_3 : w3.cell? ⟨w.heap.size + 1, 3, none⟩ = some (.bool c.b3) := cell_keep bb3 c2_c_3
  have c3_c_4 : w3.cell? ⟨w.heap.size + 1, 4, none⟩ = some (.bool c.b4) := cell_keep bb3 c2_c_4
  have c3_c_5 : w3.cell? ⟨w.heap.size + 1, 5, none⟩ = some (.bool c.b5) := cell_keep bb3 c2_c_5
  have c3_c_6 : w3.cell? ⟨w.heap.size + 1, 6, none⟩ = some (.bool c.b6) := cell_keep bb3 c2_c_6
  have c3_c_7 : w3.cell? ⟨w.heap.size + 1, 7, none⟩ = some (.slice c.p c.hs.length c.cap) := cell_keep bb3 c2_c_7
  have l3_c : w.heap.size + 1 < w3.heap.size := by omega
  have m3_c : w.heap.size + 1 < w3.heap.size + 1 := by omega
  have HT3 := Lib.hid (HT2.out.below bb3)
  have HC3 := Lib.hid (HC2.out.below bb3)
  have HL3 := Lib.hid (HL2.out.below bb3)
  have HM3 := Lib.hid (HM2.out.below bb3)
  have HH3 := Lib.hid (HH2.out.below bb3)
  have HE3 := Lib.hid (HE2.out.below bb3)
  have BE3 := Lib.hid be3
  clear be3 bb3 hb3 BE2 c2_t_0 c2_t_1 c2_t_2 c2_t_3 c2_t_4 l2_t m2_t c2_c_0 c2_c_1 c2_c_2 c2_c_3 c2_c_4 c2_c_5 c2_c_6 c2_c_7 l2_c m2_c HT2 HC2 HL2 HM2 HH2 HE2
  go_wp2_with fail
  refine (bounds_at t c q1 q3 cap1 cap3 lo hi _ (HT3.out.below (by repeat (first | exact Below.refl _ _ | assumption | refine below_drewN ?_ _ | refine Below.setCell ?_ (by first | (simp; done) | (simp; omega)) _ | refine Below.alloc ?_ (by first | (simp; done) | (simp; omega) | omega) _ | refine Below.drew ?_ | refine Below.trans ?_ (Below.mono (by assumption) (by first | (simp; done) | (simp; omega) | omega))))) (HC3.out.below (by repeat (first | exact Below.refl _ _ | assumption | refine below_drewN ?_ _ | refine Below.setCell ?_ (by first | (simp; done) | (simp; omega)) _ | refine Below.alloc ?_ (by first | (simp; done) | (simp; omega) | omega) _ | refine Below.drew ?_ | refine Below.trans ?_ (Below.mono (by assumption) (by first | (simp; done) | (simp; omega) | omega))))) (HL3.out.below (by repeat (first | exact Below.refl _ _ | assumption | refine below_drewN ?_ _ | refine Below.setCell ?_ (by first | (simp; done) | (simp; omega)) _ | refine Below.alloc ?_ (by first | (simp; done) | (simp; omega) | omega) _ | refine Below.drew ?_ | refine Below.trans ?_ (Below.mono (by assumption) (by first | (simp; done) | (simp; omega) | omega))))) (HH3.out.below (by repeat (first | exact Below.refl _ _ | assumption | refine below_drewN ?_ _ | refine Below.setCell ?_ (by first | (simp; done) | (simp; omega)) _ | refine Below.alloc ?_ (by first | (simp; done) | (simp; omega) | omega) _ | refine Below.drew ?_ | refine Below.trans ?_ (Below.mono (by assumption) (by first | (simp; done) | (simp; omega) | omega))))) (by omega) (by omega) (HE3.out.below (by repeat (first | exact Below.refl _ _ | assumption | refine below_drewN ?_ _ | refine Below.setCell ?_ (by first | (simp; done) | (simp; omega)) _ | refine Below.alloc ?_ (by first | (simp; done) | (simp; omega) | omega) _ | refine Below.drew ?_ | refine Below.trans ?_ (Below.mono (by assumption) (by first | (simp; done) | (simp; omega) | omega)))))).mono ?_
  rintro e w4 ⟨rfl, hb4⟩
  rw [HB.out]
  simp only [R4]
  have hz4 := hb4.size
  (try simp at hz4)
  have bb4 : Below w3.heap.size w3 w4 := (by repeat (first | exact Below.refl _ _ | assumption | refine below_drewN ?_ _ | refine Below.setCell ?_ (by first | (simp; done) | (simp; omega)) _ | refine Below.alloc ?_ (by first | (simp; done) | (simp; omega) | omega) _ | refine Below.drew ?_ | refine Below.trans ?_ (Below.mono (by assumption) (by first | (simp; done) | (simp; omega) | omega))))
  have be4 : Below w.heap.size w w4 := BE3.out.trans (bb4.mono BE3.out.size)
  have c4_t_0 : w4.cell? ⟨w.heap.size, 0, none⟩ = some (.int .i64 t.kd) := cell_keep bb4 c3_t_0
  have c4_t_1 : w4.cell? ⟨w.heap.size, 1, none⟩ = some (.int .i64 t.n) := cell_keep bb4 c3_t_1
  have c4_t_2 : w4.cell? ⟨w.heap.size, 2, none⟩ = some (.int .i64 t.ev) := cell_keep bb4 c3_t_2
  have c4_t_3 : w4.cell? ⟨w.heap.size, 3, none⟩ = some (.bool t.bz) := cell_keep bb4 c3_t_3
  have c4_t_4 : w4.cell? ⟨w.heap.size, 4, none⟩ = some (.slice t.p t.kids.length t.cap) := cell_keep bb4 c3_t_4
  have l4_t : w.heap.size < w4.heap.size := by omega
  have m4_t : w.heap.size < w4.heap.size + 1 := by omega
  have c4_c_0 : w4.cell? ⟨w.heap.size + 1, 0, none⟩ = some (.bool c.b0) := cell_keep bb4 c3_c_0
  have c4_c_1 : w4.cell? ⟨w.heap.size + 1, 1, none⟩ = some (.bool c.b1) := cell_keep bb4 c3_c_1
  have c4_c_2 : w4.cell? ⟨w.heap.size + 1, 2, none⟩ = some (.bool c.b2) := cell_keep bb4 c3_c_2
  have c4_c_3 : w4.cell? ⟨w.heap.size + 1, 3, none⟩ = some (.bool c.b3) := cell_keep bb4 c3_c_3
  have c4_c_4 : w4.cell? ⟨w.heap.size + 1, 4, none⟩ = some (.bool c.b4) := cell_keep bb4 c3_c_4
  have c4_c_5 : w4.cell? ⟨w.heap.size + 1, 5, none⟩ = some (.bool c.b5) := cell_keep bb4 c3_c_5
  have c4_c_6 : w4.cell? ⟨w.heap.size + 1, 6, none⟩ = some (.bool c.b6) := cell_keep bb4 c3_c_6
  have c4_c_7 : w4.cell? ⟨w.heap.size + 1, 7, none⟩ = some (.slice c.p c.hs.length c.cap) := cell_keep bb4 c3_c_7
  have l4_c : w.heap.size + 1 < w4.heap.size := by omega
  have m4_c : w.heap.size + 1 < w4.heap.size + 1 := by omega
  have HT4 := Lib.hid (HT3.out.below bb4)
  have HC4 := Lib.hid (HC3.out.below bb4)
  have HL4 := Lib.hid (HL3.out.below bb4)
  have HM4 := Lib.hid (HM3.out.below bb4)
  have HH4 := Lib.hid (HH3.out.below bb4)
  have HE4 := Lib.hid (HE3.out.below bb4)
  have BE4 := Lib.hid be4
  clear be4 bb4 hb4 BE3 c3_t_0 c3_t_1 c3_t_2 c3_t_3 c3_t_4 l3_t m3_t c3_c_0 c3_c_1 c3_c_2 c3_c_3 c3_c_4 c3_c_5 c3_c_6 c3_c_7 l3_c m3_c HT3 HC3 HL3 HM3 HH3 HE3
  go_wp2_with fail
  refine (eval_at t c q1 cap1 lo _ (HT4.out.below (by repeat (first | exact Below.refl _ _ | assumption | refine below_drewN ?_ _ | refine Below.setCell ?_ (by first | (simp; done) | (simp; omega)) _ | refine Below.alloc ?_ (by first | (simp; done) | (simp; omega) | omega) _ | refine Below.drew ?_ | refine Below.trans ?_ (Below.mono (by assumption) (by first | (simp; done) | (simp; omega) | omega))))) (HC4.out.below (by repeat (first | exact Below.refl _ _ | assumption | refine below_drewN ?_ _ | refine Below.setCell ?_ (by first | (simp; done) | (simp; omega)) _ | refine Below.alloc ?_ (by first | (simp; done) | (simp; omega) | omega) _ | refine Below.drew ?_ | refine Below.trans ?_ (Below.mono (by assumption) (by first | (simp; done) | (simp; omega) | omega))))) (HL4.out.below (by repeat (first | exact Below.refl _ _ | assumption | refine below_drewN ?_ _ | refine Below.setCell ?_ (by first | (simp; done) | (simp; omega)) _ | refine Below.alloc ?_ (by first | (simp; done) | (simp; omega) | omega) _ | refine Below.drew ?_ | refine Below.trans ?_ (Below.mono (by assumption) (by first | (simp; done) | (simp; omega) | omega))))) (by omega) (HE4.out.below (by repeat (first | exact Below.refl _ _ | assumption | refine below_drewN ?_ _ | refine Below.setCell ?_ (by first | (simp; done) | (simp; omega)) _ | refine Below.alloc ?_ (by first | (simp; done) | (simp; omega) | omega) _ | refine Below.drew ?_ | refine Below.trans ?_ (Below.mono (by assumption) (by first | (simp; done) | (simp; omega) | omega)))))).mono ?_
  rintro e w5 ⟨rfl, hb5⟩
  rw [HA.out]
  simp only [R3]
  have hz5 := hb5.size
  (try simp at hz5)
  have bb5 : Below w4.heap.size w4 w5 := (by repeat (first | exact Below.refl _ _ | assumption | refine below_drewN ?_ _ | refine Below.setCell ?_ (by first | (simp; done) | (simp; omega)) _ | refine Below.alloc ?_ (by first | (simp; done) | (simp; omega) | omega) _ | refine Below.drew ?_ | refine Below.trans ?_ (Below.mono (by assumption) (by first | (simp; done) | (simp; omega) | omega))))
  have be5 : Below w.heap.size w w5 := BE4.out.trans (bb5.mono BE4.out.size)
  have c5_t_0 : w5.cell? ⟨w.heap.size, 0, none⟩ = some (.int .i64 t.kd) := cell_keep bb5 c4_t_0
  have c5_t_1 : w5.cell? ⟨w.heap.size, 1, none⟩ = some (.int .i64 t.n) := cell_keep bb5 c4_t_1
  have c5_t_2 : w5.cell? ⟨w.heap.size, 2, none⟩ = some (.int .i64 t.ev) := cell_keep bb5 c4_t_2
  have c5_t_3 : w5.cell? ⟨w.heap.size, 3, none⟩ = some (.bool t.bz) := cell_keep bb5 c4_t_3
  have c5_t_4 : w5.cell? ⟨w.heap.size, 4, none⟩ = some (.slice t.p t.kids.length t.cap) := cell_keep bb5 c4_t_4
  have l5_t : w.heap.size < w5.heap.size := by omega
  have m5_t : w.heap.size < w5.heap.size + 1 := by omega
  have c5_c_0 : w5.cell? ⟨w.heap.size + 1, 0, none⟩ = some (.bool c.b0) := cell_keep bb5 c4_c_0
  have c5_c_1 : w5.cell? ⟨w.heap.size + 1, 1, none⟩ = some (.bool c.b1) := cell_keep bb5 c4_c_1
  have c5_c_2 : w5.cell? ⟨w.heap.size + 1, 2, none⟩ = some (.bool c.b2) := cell_keep bb5 c4_c_2
  have c5_c_3 : w5.cell? ⟨w.heap.size + 1, 3, none⟩ = some (.bool c.b3) := cell_keep bb5 c4_c_3
  have c5_c_4 : w5.cell? ⟨w.heap.size + 1, 4, none⟩ = some (.bool c.b4) := cell_keep bb5 c4_c_4
  have c5_c_5 : w5.cell? ⟨w.heap.size + 1, 5, none⟩ = some (.bool c.b5) := cell_keep bb5 c4_c_5
  have c5_c_6 : w5.cell? ⟨w.heap.size + 1, 6, none⟩ = some (.bool c.b6) := cell_keep bb5 c4_c_6
  have c5_c_7 : w5.cell? ⟨w.heap.size + 1, 7, none⟩ = some (.slice c.p c.hs.length c.cap) := cell_keep bb5 c4_c_7
  have l5_c : w.heap.size + 1 < w5.heap.size := by omega
  have m5_c : w.heap.size + 1 < w5.heap.size + 1 := by omega
  have HT5 := Lib.hid (HT4.out.below bb5)
  have HC5 := Lib.hid (HC4.out.below bb5)
  have HL5 := Lib.hid (HL4.out.below bb5)
  have HM5 := Lib.hid (HM4.out.below bb5)
  have HH5 := Lib.hid (HH4.out.below bb5)
  have HE5 := Lib.hid (HE4.out.below bb5)
  have BE5 := Lib.hid be5
  clear be5 bb5 hb5 BE4 c4_t_0 c4_t_1 c4_t_2 c4_t_3 c4_t_4 l4_t m4_t c4_c_0 c4_c_1 c4_c_2 c4_c_3 c4_c_4 c4_c_5 c4_c_6 c4_c_7 l4_c m4_c HT4 HC4 HL4 HM4 HH4 HE4
  go_wp2_with fail
  refine (eval_at t c q3 cap3 hi _ (HT5.out.below (by repeat (first | exact Below.refl _ _ | assumption | refine below_drewN ?_ _ | refine Below.setCell ?_ (by first | (simp; done) | (simp; omega)) _ | refine Below.alloc ?_ (by first | (simp; done) | (simp; omega) | omega) _ | refine Below.drew ?_ | refine Below.trans ?_ (Below.mono (by assumption) (by first | (simp; done) | (simp; omega) | omega))))) (HC5.out.below (by repeat (first | exact Below.refl _ _ | assumption | refine below_drewN ?_ _ | refine Below.setCell ?_ (by first | (simp; done) | (simp; omega)) _ | refine Below.alloc ?_ (by first | (simp; done) | (simp; omega) | omega) _ | refine Below.drew ?_ | refine Below.trans ?_ (Below.mono (by assumption) (by first | (simp; done) | (simp; omega) | omega))))) (HH5.out.below (by repeat (first | exact Below.refl _ _ | assumption | refine below_drewN ?_ _ | refine Below.setCell ?_ (by first | (simp; done) | (simp; omega)) _ | refine Below.alloc ?_ (by first | (simp; done) | (simp; omega) | omega) _ | refine Below.drew ?_ | refine Below.trans ?_ (Below.mono (by assumption) (by first | (simp; done) | (simp; omega) | omega))))) (by omega) (HE5.out.below (by repeat (first | exact Below.refl _ _ | assumption | refine below_drewN ?_ _ | refine Below.setCell ?_ (by first | (simp; done) | (simp; omega)) _ | refine Below.alloc ?_ (by first | (simp; done) | (simp; omega) | omega) _ | refine Below.drew ?_ | refine Below.trans ?_ (Below.mono (by assumption) (by first | (simp; done) | (simp; omega) | omega)))))).mono ?_
  rintro e w6 ⟨rfl, hb6⟩
  rw [HD.out]
  simp only [R3]
  have hz6 := hb6.size
  (try simp at hz6)
  have bb6 : Below w5.heap.size w5 w6 := (by repeat (first | exact Below.refl _ _ | assumption | refine below_drewN ?_ _ | refine Below.setCell ?_ (by first | (simp; done) | (simp; omega)) _ | refine Below.alloc ?_ (by first | (simp; done) | (simp; omega) | omega) _ | refine Below.drew ?_ | refine Below.trans ?_ (Below.mono (by assumption) (by first | (simp; done) | (simp; omega) | omega))))
  have be6 : Below w.heap.size w w6 := BE5.out.trans (bb6.mono BE5.out.size)
  have c6_t_0 : w6.cell? ⟨w.heap.size, 0, none⟩ = some (.int .i64 t.kd) := cell_keep bb6 c5_t_0
  have c6_t_1 : w6.cell? ⟨w.heap.size, 1, none⟩ = some (.int .i64 t.n) := cell_keep bb6 c5_t_1
  have c6_t_2 : w6.cell? ⟨w.heap.size, 2, none⟩ = some (.int .i64 t.ev) := cell_keep bb6 c5_t_2
  have c6_t_3 : w6.cell? ⟨w.heap.size, 3, none⟩ = some (.bool t.bz) := cell_keep bb6 c5_t_3
  have c6_t_4 : w6.cell? ⟨w.heap.size, 4, none⟩ = some (.slice t.p t.kids.length t.cap) := cell_keep bb6 c5_t_4
  have l6_t : w.heap.size < w6.heap.size := by omega
  have m6_t : w.heap.size < w6.heap.size + 1 := by omega
  have c6_c_0 : w6.cell? ⟨w.heap.size + 1, 0, none⟩ = some (.bool c.b0) := cell_keep bb6 c5_c_0
  have c6_c_1 : w6.cell? ⟨w.heap.size + 1, 1, none⟩ = some (.bool c.b1) := cell_keep bb6 c5_c_1
  have c6_c_2 : w6.cell? ⟨w.heap.size + 1, 2, none⟩ = some (.bool c.b2) := cell_keep bb6 c5_c_2
  have c6_c_3 : w6.cell? ⟨w.heap.size + 1, 3, none⟩ = some (.bool c.b3) := cell_keep bb6 c5_c_3
  have c6_c_4 : w6.cell? ⟨w.heap.size + 1, 4, none⟩ = some (.bool c.b4) := cell_keep bb6 c5_c_4
  have c6_c_5 : w6.cell? ⟨w.heap.size + 1, 5, none⟩ = some (.bool c.b5) := cell_keep bb6 c5_c_5
  have c6_c_6 : w6.cell? ⟨w.heap.size + 1, 6, none⟩ = some (.bool c.b6) := cell_keep bb6 c5_c_6
  have c6_c_7 : w6.cell? ⟨w.heap.size + 1, 7, none⟩ = some (.slice c.p c.hs.length c.cap) := cell_keep bb6 c5_c_7
  have l6_c : w.heap.size + 1 < w6.heap.size := by omega
  have m6_c : w.heap.size + 1 < w6.heap.size + 1 := by omega
  have HT6 := Lib.hid (HT5.out.below bb6)
  have HC6 := Lib.hid (HC5.out.below bb6)
  have HL6 := Lib.hid (HL5.out.below bb6)
  have HM6 := Lib.hid (HM5.out.below bb6)
  have HH6 := Lib.hid (HH5.out.below bb6)
  have HE6 := Lib.hid (HE5.out.below bb6)
  have BE6 := Lib.hid be6
  clear be6 bb6 hb6 BE5 c5_t_0 c5_t_1 c5_t_2 c5_t_3 c5_t_4 l5_t m5_t c5_c_0 c5_c_1 c5_c_2 c5_c_3 c5_c_4 c5_c_5 c5_c_6 c5_c_7 l5_c m5_c HT5 HC5 HL5 HM5 HH5 HE5
  go_wp2_with fail
  refine (eval_wide t c q2 cap2 mid _ (HT6.out.below (by repeat (first | exact Below.refl _ _ | assumption | refine below_drewN ?_ _ | refine Below.setCell ?_ (by first | (simp; done) | (simp; omega)) _ | refine Below.alloc ?_ (by first | (simp; done) | (simp; omega) | omega) _ | refine Below.drew ?_ | refine Below.trans ?_ (Below.mono (by assumption) (by first | (simp; done) | (simp; omega) | omega))))) (HC6.out.below (by repeat (first | exact Below.refl _ _ | assumption | refine below_drewN ?_ _ | refine Below.setCell ?_ (by first | (simp; done) | (simp; omega)) _ | refine Below.alloc ?_ (by first | (simp; done) | (simp; omega) | omega) _ | refine Below.drew ?_ | refine Below.trans ?_ (Below.mono (by assumption) (by first | (simp; done) | (simp; omega) | omega))))) (HM6.out.below (by repeat (first | exact Below.refl _ _ | assumption | refine below_drewN ?_ _ | refine Below.setCell ?_ (by first | (simp; done) | (simp; omega)) _ | refine Below.alloc ?_ (by first | (simp; done) | (simp; omega) | omega) _ | refine Below.drew ?_ | refine Below.trans ?_ (Below.mono (by assumption) (by first | (simp; done) | (simp; omega) | omega))))) (HE6.out.below (by repeat (first | exact Below.refl _ _ | assumption | refine below_drewN ?_ _ | refine Below.setCell ?_ (by first | (simp; done) | (simp; omega)) _ | refine Below.alloc ?_ (by first | (simp; done) | (simp; omega) | omega) _ | refine Below.drew ?_ | refine Below.trans ?_ (Below.mono (by assumption) (by first | (simp; done) | (simp; omega) | omega)))))).mono ?_
  rintro e w7 ⟨rfl, hb7⟩
  rw [HF.out]
  simp only [R3]
  have hz7 := hb7.size
  (try simp at hz7)
  have bb7 : Below w6.heap.size w6 w7 := (by repeat (first | exact Below.refl _ _ | assumption | refine below_drewN ?_ _ | refine Below.setCell ?_ (by first | (simp; done) | (simp; omega)) _ | refine Below.alloc ?_ (by first | (simp; done) | (simp; omega) | omega) _ | refine Below.drew ?_ | refine Below.trans ?_ (Below.mono (by assumption) (by first | (simp; done) | (simp; omega) | omega))))
  have be7 : Below w.heap.size w w7 := BE6.out.trans (bb7.mono BE6.out.size)
  have c7_t_0 : w7.cell? ⟨w.heap.size, 0, none⟩ = some (.int .i64 t.kd) := cell_keep bb7 c6_t_0
  have c7_t_1 : w7.cell? ⟨w.heap.size, 1, none⟩ = some (.int .i64 t.n) := cell_keep bb7 c6_t_1
  have c7_t_2 : w7.cell? ⟨w.heap.size, 2, none⟩ = some (.int .i64 t.ev) := cell_keep bb7 c6_t_2
  have c7_t_3 : w7.cell? ⟨w.heap.size, 3, none⟩ = some (.bool t.bz) := cell_keep bb7 c6_t_3
  have c7_t_4 : w7.cell? ⟨w.heap.size, 4, none⟩ = some (.slice t.p t.kids.length t.cap) := cell_keep bb7 c6_t_4
  have l7_t : w.heap.size < w7.heap.size := by omega
  have m7_t : w.heap.size < w7.heap.size + 1 := by omega
  have c7_c_0 : w7.cell? ⟨w.heap.size + 1, 0, none⟩ = some (.bool c.b0) := cell_keep bb7 c6_c_0
  have c7_c_1 : w7.cell? ⟨w.heap.size + 1, 1, none⟩ = some (.bool c.b1) := cell_keep bb7 c6_c_1
  have c7_c_2 : w7.cell? ⟨w.heap.size + 1, 2, none⟩ = some (.bool c.b2) := cell_keep bb7 c6_c_2
  have c7_c_3 : w7.cell? ⟨w.heap.size + 1, 3, none⟩ = some (.bool c.b3) := cell_keep bb7 c6_c_3
  have c7_c_4 : w7.cell? ⟨w.heap.size + 1, 4, none⟩ = some (.bool c.b4) := cell_keep bb7 c6_c_4
  have c7_c_5 : w7.cell? ⟨w.heap.size + 1, 5, none⟩ = some (.bool c.b5) := cell_keep bb7 c6_c_5
  have c7_c_6 : w7.cell? ⟨w.heap.size + 1, 6, none⟩ = some (.bool c.b6) := cell_keep bb7 c6_c_6
  have c7_c_7 : w7.cell? ⟨w.heap.size + 1, 7, none⟩ = some (.slice c.p c.hs.length c.cap) := cell_keep bb7 c6_c_7
  have l7_c : w.heap.size + 1 < w7.heap.size := by omega
  have m7_c : w.heap.size + 1 < w7.heap.size + 1 := by omega
  have HT7 := Lib.hid (HT6.out.below bb7)
  have HC7 := Lib.hid (HC6.out.below bb7)
  have HL7 := Lib.hid (HL6.out.below bb7)
  have HM7 := Lib.hid (HM6.out.below bb7)
  have HH7 := Lib.hid (HH6.out.below bb7)
  have HE7 := Lib.hid (HE6.out.below bb7)
  have BE7 := Lib.hid be7
  clear be7 bb7 hb7 BE6 c6_t_0 c6_t_1 c6_t_2 c6_t_3 c6_t_4 l6_t m6_t c6_c_0 c6_c_1 c6_c_2 c6_c_3 c6_c_4 c6_c_5 c6_c_6 c6_c_7 l6_c m6_c HT6 HC6 HL6 HM6 HH6 HE6
  go_wp2_with fail
  refine (ordered_calls q1 q2 cap1 cap2 lo mid _ (by omega) (HL7.out.below (by repeat (first | exact Below.refl _ _ | assumption | refine below_drewN ?_ _ | refine Below.setCell ?_ (by first | (simp; done) | (simp; omega)) _ | refine Below.alloc ?_ (by first | (simp; done) | (simp; omega) | omega) _ | refine Below.drew ?_ | refine Below.trans ?_ (Below.mono (by assumption) (by first | (simp; done) | (simp; omega) | omega))))) (HM7.out.below (by repeat (first | exact Below.refl _ _ | assumption | refine below_drewN ?_ _ | refine Below.setCell ?_ (by first | (simp; done) | (simp; omega)) _ | refine Below.alloc ?_ (by first | (simp; done) | (simp; omega) | omega) _ | refine Below.drew ?_ | refine Below.trans ?_ (Below.mono (by assumption) (by first | (simp; done) | (simp; omega) | omega)))))).mono ?_
  rintro e w8 ⟨rfl, hb8⟩
  rw [HO1.out]
  have hz8 := hb8.size
  (try simp at hz8)
  have bb8 : Below w7.heap.size w7 w8 := (by repeat (first | exact Below.refl _ _ | assumption | refine below_drewN ?_ _ | refine Below.setCell ?_ (by first | (simp; done) | (simp; omega)) _ | refine Below.alloc ?_ (by first | (simp; done) | (simp; omega) | omega) _ | refine Below.drew ?_ | refine Below.trans ?_ (Below.mono (by assumption) (by first | (simp; done) | (simp; omega) | omega))))
  have be8 : Below w.heap.size w w8 := BE7.out.trans (bb8.mono BE7.out.size)
  have c8_t_0 : w8.cell? ⟨w.heap.size, 0, none⟩ = some (.int .i64 t.kd) := cell_keep bb8 c7_t_0
  have c8_t_1 : w8.cell? ⟨w.heap.size, 1, none⟩ = some (.int .i64 t.n) := cell_keep bb8 c7_t_1
  have c8_t_2 : w8.cell? ⟨w.heap.size, 2, none⟩ = some (.int .i64 t.ev) := cell_keep bb8 c7_t_2
  have c8_t_3 : w8.cell? ⟨w.heap.size, 3, none⟩ = some (.bool t.bz) := cell_keep bb8 c7_t_3
  have c8_t_4 : w8.cell? ⟨w.heap.size, 4, none⟩ = some (.slice t.p t.kids.length t.cap) := cell_keep bb8 c7_t_4
  have l8_t : w.heap.size < w8.heap.size := by omega
  have m8_t : w.heap.size < w8.heap.size + 1 := by omega
  have c8_c_0 : w8.cell? ⟨w.heap.size + 1, 0, none⟩ = some (.bool c.b0) := cell_keep bb8 c7_c_0
  have c8_c_1 : w8.cell? ⟨w.heap.size + 1, 1, none⟩ = some (.bool c.b1) := cell_keep bb8 c7_c_1
  have c8_c_2 : w8.cell? ⟨w.heap.size + 1, 2, none⟩ = some (.bool c.b2) := cell_keep bb8 c7_c_2
  have c8_c_3 : w8.cell? ⟨w.heap.size + 1, 3, none⟩ = some (.bool c.b3) := cell_keep bb8 c7_c_3
  have c8_c_4 : w8.cell? ⟨w.heap.size + 1, 4, none⟩ = some (.bool c.b4) := cell_keep bb8 c7_c_4
  have c8_c_5 : w8.cell? ⟨w.heap.size + 1, 5, none⟩ = some (.bool c.b5) := cell_keep bb8 c7_c_5
  have c8_c_6 : w8.cell? ⟨w.heap.size + 1, 6, none⟩ = some (.bool c.b6) := cell_keep bb8 c7_c_6
  have c8_c_7 : w8.cell? ⟨w.heap.size + 1, 7, none⟩ = some (.slice c.p c.hs.length c.cap) := cell_keep bb8 c7_c_7
  have l8_c : w.heap.size + 1 < w8.heap.size := by omega
  have m8_c : w.heap.size + 1 < w8.heap.size + 1 := by omega
  have HT8 := Lib.hid (HT7.out.below bb8)
  have HC8 := Lib.hid (HC7.out.below bb8)
  have HL8 := Lib.hid (HL7.out.below bb8)
  have HM8 := Lib.hid (HM7.out.below bb8)
  have HH8 := Lib.hid (HH7.out.below bb8)
  have HE8 := Lib.hid (HE7.out.below bb8)
  have BE8 := Lib.hid be8
  clear be8 bb8 hb8 BE7 c7_t_0 c7_t_1 c7_t_2 c7_t_3 c7_t_4 l7_t m7_t c7_c_0 c7_c_1 c7_c_2 c7_c_3 c7_c_4 c7_c_5 c7_c_6 c7_c_7 l7_c m7_c HT7 HC7 HL7 HM7 HH7 HE7
  go_wp2_with fail
  refine (ordered_calls q2 q3 cap2 cap3 mid hi _ (by omega) (HM8.out.below (by repeat (first | exact Below.refl _ _ | assumption | refine below_drewN ?_ _ | refine Below.setCell ?_ (by first | (simp; done) | (simp; omega)) _ | refine Below.alloc ?_ (by first | (simp; done) | (simp; omega) | omega) _ | refine Below.drew ?_ | refine Below.trans ?_ (Below.mono (by assumption) (by first | (simp; done) | (simp; omega) | omega))))) (HH8.out.below (by repeat (first | exact Below.refl _ _ | assumption | refine below_drewN ?_ _ | refine Below.setCell ?_ (by first | (simp; done) | (simp; omega)) _ | refine Below.alloc ?_ (by first | (simp; done) | (simp; omega) | omega) _ | refine Below.drew ?_ | refine Below.trans ?_ (Below.mono (by assumption) (by first | (simp; done) | (simp; omega) | omega)))))).mono ?_
  rintro e w9 ⟨rfl, hb9⟩
  rw [HO2.out]
  have hz9 := hb9.size
  (try simp at hz9)
  have bb9 : Below w8.heap.size w8 w9 := (by repeat (first | exact Below.refl _ _ | assumption | refine below_drewN ?_ _ | refine Below.setCell ?_ (by first | (simp; done) | (simp; omega)) _ | refine Below.alloc ?_ (by first | (simp; done) | (simp; omega) | omega) _ | refine Below.drew ?_ | refine Below.trans ?_ (Below.mono (by assumption) (by first | (simp; done) | (simp; omega) | omega))))
  have be9 : Below w.heap.size w w9 := BE8.out.trans (bb9.mono BE8.out.size)
  have c9_t_0 : w9.cell? ⟨w.heap.size, 0, none⟩ = some (.int .i64 t.kd) := cell_keep bb9 c8_t_0
  have c9_t_1 : w9.cell? ⟨w.heap.size, 1, none⟩ = some (.int .i64 t.n) := cell_keep bb9 c8_t_1
  have c9_t_2 : w9.cell? ⟨w.heap.size, 2, none⟩ = some (.int .i64 t.ev) := cell_keep bb9 c8_t_2
  have c9_t_3 : w9.cell? ⟨w.heap.size, 3, none⟩ = some (.bool t.bz) := cell_keep bb9 c8_t_3
  have c9_t_4 : w9.cell? ⟨w.heap.size, 4, none⟩ = some (.slice t.p t.kids.length t.cap) := cell_keep bb9 c8_t_4
  have l9_t : w.heap.size < w9.heap.size := by omega
  have m9_t : w.heap.size < w9.heap.size + 1 := by omega
  have c9_c_0 : w9.cell? ⟨w.heap.size + 1, 0, none⟩ = some (.bool c.b0) := cell_keep bb9 c8_c_0
  have c9_c_1 : w9.cell? ⟨w.heap.size + 1, 1, none⟩ = some (.bool c.b1) := cell_keep bb9 c8_c_1
  have c9_c_2 : w9.cell? ⟨w.heap.size + 1, 2, none⟩ = some (.bool c.b2) := cell_keep bb9 c8_c_2
  have c9_c_3 : w9.cell? ⟨w.heap.size + 1, 3, none⟩ = some (.bool c.b3) := cell_keep bb9 c8_c_3
  have c9_c_4 : w9.cell? ⟨w.heap.size + 1, 4, none⟩ = some (.bool c.b4) := cell_keep bb9 c8_c_4
  have c9_c_5 : w9.cell? ⟨w.heap.size + 1, 5, none⟩ = some (.bool c.b5) := cell_keep bb9 c8_c_5
  have c9_c_6 : w9.cell? ⟨w.heap.size + 1, 6, none⟩ = some (.bool c.b6) := cell_keep bb9 c8_c_6
  have c9_c_7 : w9.cell? ⟨w.heap.size + 1, 7, none⟩ = some (.slice c.p c.hs.length c.cap) := cell_keep bb9 c8_c_7
  have l9_c : w.heap.size + 1 < w9.heap.size := by omega
  have m9_c : w.heap.size + 1 < w9.heap.size + 1 := by omega
  have HT9 := Lib.hid (HT8.out.below bb9)
  have HC9 := Lib.hid (HC8.out.below bb9)
  have HL9 := Lib.hid (HL8.out.below bb9)
  have HM9 := Lib.hid (HM8.out.below bb9)
  have HH9 := Lib.hid (HH8.out.below bb9)
  have HE9 := Lib.hid (HE8.out.below bb9)
  have BE9 := Lib.hid be9
  clear be9 bb9 hb9 BE8 c8_t_0 c8_t_1 c8_t_2 c8_t_3 c8_t_4 l8_t m8_t c8_c_0 c8_c_1 c8_c_2 c8_c_3 c8_c_4 c8_c_5 c8_c_6 c8_c_7 l8_c m8_c HT8 HC8 HL8 HM8 HH8 HE8
  go_wp2_with fail
  go_ret
  exact ⟨rfl, (by have q := BE9.out; repeat (first | exact q | refine Below.setCell ?_ (by first | (simp; done) | omega | (simp; omega)) _ | refine Below.alloc ?_ (by first | (simp; done) | omega | (simp; omega)) _ | refine below_drewN ?_ _ | refine Below.drew ?_))⟩
set_option maxRecDepth 100000 in
set_option maxHeartbeats 1600000 in
theorem bo_k4 (t : Dl.T) (c : Cal) (q1 q2 q3 : Option Addr) (cap1 cap2 cap3 : Nat) (lo mid hi : List Wh) (a b : Int) (d : Int) (w : World) (ht : TAt w t) (hn : LenOK t) (hc : CalIn w c) (hl : EvAt w q1 lo) (hm : EvAt w q2 mid) (hh : EvAt w q3 hi) (he : Env w) (hs : smallB t lo = true) (hs2 : smallB t hi = true) (hln : lo.length ≤ 40) (hlh : hi.length ≤ 40) (hb : boundsS t c lo hi = (a, b, true, 0)) (ha : evalS t c lo = (a, true, 0)) (hd : evalS t c hi = (b, true, 0)) (hab : a ≤ b) (hf : evalS t c mid = (d, true, 0)) (hlm : mid.length ≤ 40) (ho1 : ordL lo mid = true) (ho2 : ordL mid hi = true) (hd1 : a ≤ d) (hd2 : d ≤ b) :
    Calls Tryd.prog 4 #[.agg #[.int .i64 t.kd, .int .i64 t.n, .int .i64 t.ev, .bool t.bz, .slice t.p t.kids.length t.cap], .agg #[.bool c.b0, .bool c.b1, .bool c.b2, .bool c.b3, .bool c.b4, .bool c.b5, .bool c.b6, .slice c.p c.hs.length c.cap], .slice q1 lo.length cap1, .slice q2 mid.length cap2, .slice q3 hi.length cap3] w fun e w' => e = .returned (.bool true) ∧ Below w.heap.size w w' := by
  have HT0 := Lib.hid ht
  clear ht
  have HC0 := Lib.hid hc
  clear hc
  have HL0 := Lib.hid hl
  clear hl
  have HM0 := Lib.hid hm
  clear hm
  have HH0 := Lib.hid hh
  clear hh
  have HE0 := Lib.hid he
  clear he
  have HN := Lib.hid hn
  clear hn
  have hba : decide (b < a) = false := decide_eq_false (by omega)
  have HS := Lib.hid hs
  clear hs
  have HS2 := Lib.hid hs2
  clear hs2
  have HB := Lib.hid hb
  clear hb
  have HA := Lib.hid ha
  clear ha
  have HD := Lib.hid hd
  clear hd
  have HF := Lib.hid hf
  clear hf
  have HO1 := Lib.hid ho1
  clear ho1
  have HO2 := Lib.hid ho2
  clear ho2
  have e1 : decide (a ≤ d) = true := decide_eq_true hd1
  have e2 : decide (d ≤ b) = true := decide_eq_true hd2
  go_enter Tryd.func4, Tryd.ntmps4
  go_wp2_with fail
  refine (head_any _ (HE0.out.below (by repeat (first | exact Below.refl _ _ | assumption | refine below_drewN ?_ _ | refine Below.setCell ?_ (by first | (simp; done) | (simp; omega)) _ | refine Below.alloc ?_ (by first | (simp; done) | (simp; omega) | omega) _ | refine Below.drew ?_ | refine Below.trans ?_ (Below.mono (by assumption) (by first | (simp; done) | (simp; omega) | omega)))))).mono ?_
  rintro e w1 ⟨rfl, hb1⟩
  have hz1 := hb1.size
  (try simp at hz1)
  have bb1 : Below w.heap.size w w1 := (by repeat (first | exact Below.refl _ _ | assumption | refine below_drewN ?_ _ | refine Below.setCell ?_ (by first | (simp; done) | (simp; omega)) _ | refine Below.alloc ?_ (by first | (simp; done) | (simp; omega) | omega) _ | refine Below.drew ?_ | refine Below.trans ?_ (Below.mono (by assumption) (by first | (simp; done) | (simp; omega) | omega))))
  have be1 : Below w.heap.size w w1 := bb1
  have c1_t_0 : w1.cell? ⟨w.heap.size, 0, none⟩ = some (.int .i64 t.kd) := cell_keep hb1 (by go_simp)
  have c1_t_1 : w1.cell? ⟨w.heap.size, 1, none⟩ = some (.int .i64 t.n) := cell_keep hb1 (by go_simp)
  have c1_t_2 : w1.cell? ⟨w.heap.size, 2, none⟩ = some (.int .i64 t.ev) := cell_keep hb1 (by go_simp)
  have c1_t_3 : w1.cell? ⟨w.heap.size, 3, none⟩ = some (.bool t.bz) := cell_keep hb1 (by go_simp)
  have c1_t_4 : w1.cell? ⟨w.heap.size, 4, none⟩ = some (.slice t.p t.kids.length t.cap) := cell_keep hb1 (by go_simp)
  have l1_t : w.heap.size < w1.heap.size := by omega
  have m1_t : w.heap.size < w1.heap.size + 1 := by omega
  have c1_c_0 : w1.cell? ⟨w.heap.size + 1, 0, none⟩ = some (.bool c.b0) := cell_keep hb1 (by go_simp)
  have c1_c_1 : w1.cell? ⟨w.heap.size + 1, 1, none⟩ = some (.bool c.b1) := cell_keep hb1 (by go_simp)
  have c1_c_2 : w1.cell? ⟨w.heap.size + 1, 2, none⟩ = some (.bool c.b2) := cell_keep hb1 (by go_simp)
  have c1_c_3 : w1.cell? ⟨w.heap.size + 1, 3, none⟩ = some (.bool c.b3) := cell_keep hb1 (by go_simp)
  have c1_c_4 : w1.cell? ⟨w.heap.size + 1, 4, none⟩ = some (.bool c.b4) := cell_keep hb1 (by go_simp)
  have c1_c_5 : w1.cell? ⟨w.heap.size + 1, 5, none⟩ = some (.bool c.b5) := cell_keep hb1 (by go_simp)
  have c1_c_6 : w1.cell? ⟨w.heap.size + 1, 6, none⟩ = some (.bool c.b6) := cell_keep hb1 (by go_simp)
  have c1_c_7 : w1.cell? ⟨w.heap.size + 1, 7, none⟩ = some (.slice c.p c.hs.length c.cap) := cell_keep hb1 (by go_simp)
  have l1_c : w.heap.size + 1 < w1.heap.size := by omega
  have m1_c : w.heap.size + 1 < w1.heap.size + 1 := by omega
  have HT1 := Lib.hid (HT0.out.below bb1)
  have HC1 := Lib.hid (HC0.out.below bb1)
  have HL1 := Lib.hid (HL0.out.below bb1)
  have HM1 := Lib.hid (HM0.out.below bb1)
  have HH1 := Lib.hid (HH0.out.below bb1)
  have HE1 := Lib.hid (HE0.out.below bb1)
  have BE1 := Lib.hid be1
  clear be1 bb1 hb1 HT0 HC0 HL0 HM0 HH0 HE0
  go_wp2_with fail
  refine (small_any t q1 lo cap1 _ HN.out (HT1.out.below (by repeat (first | exact Below.refl _ _ | assumption | refine below_drewN ?_ _ | refine Below.setCell ?_ (by first | (simp; done) | (simp; omega)) _ | refine Below.alloc ?_ (by first | (simp; done) | (simp; omega) | omega) _ | refine Below.drew ?_ | refine Below.trans ?_ (Below.mono (by assumption) (by first | (simp; done) | (simp; omega) | omega)))))).mono ?_
  rintro e w2 ⟨rfl, hb2⟩
  rw [HS.out]
  have hz2 := hb2.size
  (try simp at hz2)
  have bb2 : Below w1.heap.size w1 w2 := (by repeat (first | exact Below.refl _ _ | assumption | refine below_drewN ?_ _ | refine Below.setCell ?_ (by first | (simp; done) | (simp; omega)) _ | refine Below.alloc ?_ (by first | (simp; done) | (simp; omega) | omega) _ | refine Below.drew ?_ | refine Below.trans ?_ (Below.mono (by assumption) (by first | (simp; done) | (simp; omega) | omega))))
  have be2 : Below w.heap.size w w2 := BE1.out.trans (bb2.mono BE1.out.size)
  have c2_t_0 : w2.cell? ⟨w.heap.size, 0, none⟩ = some (.int .i64 t.kd) := cell_keep bb2 c1_t_0
  have c2_t_1 : w2.cell? ⟨w.heap.size, 1, none⟩ = some (.int .i64 t.n) := cell_keep bb2 c1_t_1
  have c2_t_2 : w2.cell? ⟨w.heap.size, 2, none⟩ = some (.int .i64 t.ev) := cell_keep bb2 c1_t_2
  have c2_t_3 : w2.cell? ⟨w.heap.size, 3, none⟩ = some (.bool t.bz) := cell_keep bb2 c1_t_3
  have c2_t_4 : w2.cell? ⟨w.heap.size, 4, none⟩ = some (.slice t.p t.kids.length t.cap) := cell_keep bb2 c1_t_4
  have l2_t : w.heap.size < w2.heap.size := by omega
  have m2_t : w.heap.size < w2.heap.size + 1 := by omega
  have c2_c_0 : w2.cell? ⟨w.heap.size + 1, 0, none⟩ = some (.bool c.b0) := cell_keep bb2 c1_c_0
  have c2_c_1 : w2.cell? ⟨w.heap.size + 1, 1, none⟩ = some (.bool c.b1) := cell_keep bb2 c1_c_1
  have c2_c_2 : w2.cell? ⟨w.heap.size + 1, 2, none⟩ = some (.bool c.b2) := cell_keep bb2 c1_c_2
  have c2_c_3 : w2.cell? ⟨w.heap.size + 1, 3, none⟩ = some (.bool c.b3) := cell_keep bb2 c1_c_3
  have c2_c_4 : w2.cell? ⟨w.heap.size + 1, 4, none⟩ = some (.bool c.b4) := cell_keep bb2 c1_c_4
  have c2_c_5 : w2.cell? ⟨w.heap.size + 1, 5, none⟩ = some (.bool c.b5) := cell_keep bb2 c1_c_5
  have c2_c_6 : w2.cell? ⟨w.heap.size + 1, 6, none⟩ = some (.bool c.b6) := cell_keep bb2 c1_c_6
  have c2_c_7 : w2.cell? ⟨w.heap.size + 1, 7, none⟩ = some (.slice c.p c.hs.length c.cap) := cell_keep bb2 c1_c_7
  have l2_c : w.heap.size + 1 < w2.heap.size := by omega
  have m2_c : w.heap.size + 1 < w2.heap.size + 1 := by omega
  have HT2 := Lib.hid (HT1.out.below bb2)
  have HC2 := Lib.hid (HC1.out.below bb2)
  have HL2 := Lib.hid (HL1.out.below bb2)
  have HM2 := Lib.hid (HM1.out.below bb2)
  have HH2 := Lib.hid (HH1.out.below bb2)
  have HE2 := Lib.hid (HE1.out.below bb2)
  have BE2 := Lib.hid be2
  clear be2 bb2 hb2 BE1 c1_t_0 c1_t_1 c1_t_2 c1_t_3 c1_t_4 l1_t m1_t c1_c_0 c1_c_1 c1_c_2 c1_c_3 c1_c_4 c1_c_5 c1_c_6 c1_c_7 l1_c m1_c HT1 HC1 HL1 HM1 HH1 HE1
  go_wp2_with fail
  refine (small_any t q3 hi cap3 _ HN.out (HT2.out.below (by repeat (first | exact Below.refl _ _ | assumption | refine below_drewN ?_ _ | refine Below.setCell ?_ (by first | (simp; done) | (simp; omega)) _ | refine Below.alloc ?_ (by first | (simp; done) | (simp; omega) | omega) _ | refine Below.drew ?_ | refine Below.trans ?_ (Below.mono (by assumption) (by first | (simp; done) | (simp; omega) | omega)))))).mono ?_
  rintro e w3 ⟨rfl, hb3⟩
  rw [HS2.out]
  have hz3 := hb3.size
  (try simp at hz3)
  have bb3 : Below w2.heap.size w2 w3 := (by repeat (first | exact Below.refl _ _ | assumption | refine below_drewN ?_ _ | refine Below.setCell ?_ (by first | (simp; done) | (simp; omega)) _ | refine Below.alloc ?_ (by first | (simp; done) | (simp; omega) | omega) _ | refine Below.drew ?_ | refine Below.trans ?_ (Below.mono (by assumption) (by first | (simp; done) | (simp; omega) | omega))))
  have be3 : Below w.heap.size w w3 := BE2.out.trans (bb3.mono BE2.out.size)
  have c3_t_0 : w3.cell? ⟨w.heap.size, 0, none⟩ = some (.int .i64 t.kd) := cell_keep bb3 c2_t_0
  have c3_t_1 : w3.cell? ⟨w.heap.size, 1, none⟩ = some (.int .i64 t.n) := cell_keep bb3 c2_t_1
  have c3_t_2 : w3.cell? ⟨w.heap.size, 2, none⟩ = some (.int .i64 t.ev) := cell_keep bb3 c2_t_2
  have c3_t_3 : w3.cell? ⟨w.heap.size, 3, none⟩ = some (.bool t.bz) := cell_keep bb3 c2_t_3
  have c3_t_4 : w3.cell? ⟨w.heap.size, 4, none⟩ = some (.slice t.p t.kids.length t.cap) := cell_keep bb3 c2_t_4
  have l3_t : w.heap.size < w3.heap.size := by omega
  have m3_t : w.heap.size < w3.heap.size + 1 := by omega
  have c3_c_0 : w3.cell? ⟨w.heap.size + 1, 0, none⟩ = some (.bool c.b0) := cell_keep bb3 c2_c_0
  have c3_c_1 : w3.cell? ⟨w.heap.size + 1, 1, none⟩ = some (.bool c.b1) := cell_keep bb3 c2_c_1
  have c3_c_2 : w3.cell? ⟨w.heap.size + 1, 2, none⟩ = some (.bool c.b2) := cell_keep bb3 c2_c_2
  have c3_c_3 : w3.cell? ⟨w.heap.size + 1, 3, none⟩ = some (.bool c.b3) := cell_keep bb3 c2_c_3
  have c3_c_4 : w3.cell? ⟨w.heap.size + 1, 4, none⟩ = some (.bool c.b4) := cell_keep bb3 c2_c_4
  have c3_c_5 : w3.cell? ⟨w.heap.size + 1, 5, none⟩ = some (.bool c.b5) := cell_keep bb3 c2_c_5
  have c3_c_6 : w3.cell? ⟨w.heap.size + 1, 6, none⟩ = some (.bool c.b6) := cell_keep bb3 c2_c_6
  have c3_c_7 : w3.cell? ⟨w.heap.size + 1, 7, none⟩ = some (.slice c.p c.hs.length c.cap) := cell_keep bb3 c2_c_7
  have l3_c : w.heap.size + 1 < w3.heap.size := by omega
  have m3_c : w.heap.size + 1 < w3.heap.size + 1 := by omega
  have HT3 := Lib.hid (HT2.out.below bb3)
  have HC3 := Lib.hid (HC2.out.below bb3)
  have HL3 := Lib.hid (HL2.out.below bb3)
  have HM3 := Lib.hid (HM2.out.below bb3)
  have HH3 := Lib.hid (HH2.out.below bb3)
  have HE3 := Lib.hid (HE2.out.below bb3)
  have BE3 := Lib.hid be3
  clear be3 bb3 hb3 BE2 c2_t_0 c2_t_1 c2_t_2 c2_t_3 c2_t_4 l2_t m2_t c2_c_0 c2_c_1 c2_c_2 c2_c_3 c2_c_4 c2_c_5 c2_c_6 c2_c_7 l2_c m2_c HT2 HC2 HL2 HM2 HH2 HE2
  go_wp2_with fail
  refine (bounds_at t c q1 q3 cap1 cap3 lo hi _ (HT3.out.below (by repeat (first | exact Below.refl _ _ | assumption | refine below_drewN ?_ _ | refine Below.setCell ?_ (by first | (simp; done) | (simp; omega)) _ | refine Below.alloc ?_ (by first | (simp; done) | (simp; omega) | omega) _ | refine Below.drew ?_ | refine Below.trans ?_ (Below.mono (by assumption) (by first | (simp; done) | (simp; omega) | omega))))) (HC3.out.below (by repeat (first | exact Below.refl _ _ | assumption | refine below_drewN ?_ _ | refine Below.setCell ?_ (by first | (simp; done) | (simp; omega)) _ | refine Below.alloc ?_ (by first | (simp; done) | (simp; omega) | omega) _ | refine Below.drew ?_ | refine Below.trans ?_ (Below.mono (by assumption) (by first | (simp; done) | (simp; omega) | omega))))) (HL3.out.below (by repeat (first | exact Below.refl _ _ | assumption | refine below_drewN ?_ _ | refine Below.setCell ?_ (by first | (simp; done) | (simp; omega)) _ | refine Below.alloc ?_ (by first | (simp; done) | (simp; omega) | omega) _ | refine Below.drew ?_ | refine Below.trans ?_ (Below.mono (by assumption) (by first | (simp; done) | (simp; omega) | omega))))) (HH3.out.below (by repeat (first | exact Below.refl _ _ | assumption | refine below_drewN ?_ _ | refine Below.setCell ?_ (by first | (simp; done) | (simp; omega)) _ | refine Below.alloc ?_ (by first | (simp; done) | (simp; omega) | omega) _ | refine Below.drew ?_ | refine Below.trans ?_ (Below.mono (by assumption) (by first | (simp; done) | (simp; omega) | omega))))) (by omega) (by omega) (HE3.out.below (by repeat (first | exact Below.refl _ _ | assumption | refine below_drewN ?_ _ | refine Below.setCell ?_ (by first | (simp; done) | (simp; omega)) _ | refine Below.alloc ?_ (by first | (simp; done) | (simp; omega) | omega) _ | refine Below.drew ?_ | refine Below.trans ?_ (Below.mono (by assumption) (by first | (simp; done) | (simp; omega) | omega)))))).mono ?_
  rintro e w4 ⟨rfl, hb4⟩
  rw [HB.out]
  simp only [R4]
  have hz4 := hb4.size
  (try simp at hz4)
  have bb4 : Below w3.heap.size w3 w4 := (by repeat (first | exact Below.refl _ _ | assumption | refine below_drewN ?_ _ | refine Below.setCell ?_ (by first | (simp; done) | (simp; omega)) _ | refine Below.alloc ?_ (by first | (simp; done) | (simp; omega) | omega) _ | refine Below.drew ?_ | refine Below.trans ?_ (Below.mono (by assumption) (by first | (simp; done) | (simp; omega) | omega))))
  have be4 : Below w.heap.size w w4 := BE3.out.trans (bb4.mono BE3.out.size)
  have c4_t_0 : w4.cell? ⟨w.heap.size, 0, none⟩ = some (.int .i64 t.kd) := cell_keep bb4 c3_t_0
  have c4_t_1 : w4.cell? ⟨w.heap.size, 1, none⟩ = some (.int .i64 t.n) := cell_keep bb4 c3_t_1
  have c4_t_2 : w4.cell? ⟨w.heap.size, 2, none⟩ = some (.int .i64 t.ev) := cell_keep bb4 c3_t_2
  have c4_t_3 : w4.cell? ⟨w.heap.size, 3, none⟩ = some (.bool t.bz) := cell_keep bb4 c3_t_3
  have c4_t_4 : w4.cell? ⟨w.heap.size, 4, none⟩ = some (.slice t.p t.kids.length t.cap) := cell_keep bb4 c3_t_4
  have l4_t : w.heap.size < w4.heap.size := by omega
  have m4_t : w.heap.size < w4.heap.size + 1 := by omega
  have c4_c_0 : w4.cell? ⟨w.heap.size + 1, 0, none⟩ = some (.bool c.b0) := cell_keep bb4 c3_c_0
  have c4_c_1 : w4.cell? ⟨w.heap.size + 1, 1, none⟩ = some (.bool c.b1) := cell_keep bb4 c3_c_1
  have c4_c_2 : w4.cell? ⟨w.heap.size + 1, 2, none⟩ = some (.bool c.b2) := cell_keep bb4 c3_c_2
  have c4_c_3 : w4.cell? ⟨w.heap.size + 1, 3, none⟩ = some (.bool c.b3) := cell_keep bb4 c3_c_3
  have c4_c_4 : w4.cell? ⟨w.heap.size + 1, 4, none⟩ = some (.bool c.b4) := cell_keep bb4 c3_c_4
  have c4_c_5 : w4.cell? ⟨w.heap.size + 1, 5, none⟩ = some (.bool c.b5) := cell_keep bb4 c3_c_5
  have c4_c_6 : w4.cell? ⟨w.heap.size + 1, 6, none⟩ = some (.bool c.b6) := cell_keep bb4 c3_c_6
  have c4_c_7 : w4.cell? ⟨w.heap.size + 1, 7, none⟩ = some (.slice c.p c.hs.length c.cap) := cell_keep bb4 c3_c_7
  have l4_c : w.heap.size + 1 < w4.heap.size := by omega
  have m4_c : w.heap.size + 1 < w4.heap.size + 1 := by omega
  have HT4 := Lib.hid (HT3.out.below bb4)
  have HC4 := Lib.hid (HC3.out.below bb4)
  have HL4 := Lib.hid (HL3.out.below bb4)
  have HM4 := Lib.hid (HM3.out.below bb4)
  have HH4 := Lib.hid (HH3.out.below bb4)
  have HE4 := Lib.hid (HE3.out.below bb4)
  have BE4 := Lib.hid be4
  clear be4 bb4 hb4 BE3 c3_t_0 c3_t_1 c3_t_2 c3_t_3 c3_t_4 l3_t m3_t c3_c_0 c3_c_1 c3_c_2 c3_c_3 c3_c_4 c3_c_5 c3_c_6 c3_c_7 l3_c m3_c HT3 HC3 HL3 HM3 HH3 HE3
  go_wp2_with fail
  refine (eval_at t c q1 cap1 lo _ (HT4.out.below (by repeat (first | exact Below.refl _ _ | assumption | refine below_drewN ?_ _ | refine Below.setCell ?_ (by first | (simp; done) | (simp; omega)) _ | refine Below.alloc ?_ (by first | (simp; done) | (simp; omega) | omega) _ | refine Below.drew ?_ | refine Below.trans ?_ (Below.mono (by assumption) (by first | (simp; done) | (simp; omega) | omega))))) (HC4.out.below (by repeat (first | exact Below.refl _ _ | assumption | refine below_drewN ?_ _ | refine Below.setCell ?_ (by first | (simp; done) | (simp; omega)) _ | refine Below.alloc ?_ (by first | (simp; done) | (simp; omega) | omega) _ | refine Below.drew ?_ | refine Below.trans ?_ (Below.mono (by assumption) (by first | (simp; done) | (simp; omega) | omega))))) (HL4.out.below (by repeat (first | exact Below.refl _ _ | assumption | refine below_drewN ?_ _ | refine Below.setCell ?_ (by first | (simp; done) | (simp; omega)) _ | refine Below.alloc ?_ (by first | (simp; done) | (simp; omega) | omega) _ | refine Below.drew ?_ | refine Below.trans ?_ (Below.mono (by assumption) (by first | (simp; done) | (simp; omega) | omega))))) (by omega) (HE4.out.below (by repeat (first | exact Below.refl _ _ | assumption | refine below_drewN ?_ _ | refine Below.setCell ?_ (by first | (simp; done) | (simp; omega)) _ | refine Below.alloc ?_ (by first | (simp; done) | (simp; omega) | omega) _ | refine Below.drew ?_ | refine Below.trans ?_ (Below.mono (by assumption) (by first | (simp; done) | (simp; omega) | omega)))))).mono ?_
  rintro e w5 ⟨rfl, hb5⟩
  rw [HA.out]
  simp only [R3]
  have hz5 := hb5.size
  (try simp at hz5)
  have bb5 : Below w4.heap.size w4 w5 := (by repeat (first | exact Below.refl _ _ | assumption | refine below_drewN ?_ _ | refine Below.setCell ?_ (by first | (simp; done) | (simp; omega)) _ | refine Below.alloc ?_ (by first | (simp; done) | (simp; omega) | omega) _ | refine Below.drew ?_ | refine Below.trans ?_ (Below.mono (by assumption) (by first | (simp; done) | (simp; omega) | omega))))
  have be5 : Below w.heap.size w w5 := BE4.out.trans (bb5.mono BE4.out.size)
  have c5_t_0 : w5.cell? ⟨w.heap.size, 0, none⟩ = some (.int .i64 t.kd) := cell_keep bb5 c4_t_0
  have c5_t_1 : w5.cell? ⟨w.heap.size, 1, none⟩ = some (.int .i64 t.n) := cell_keep bb5 c4_t_1
  have c5_t_2 : w5.cell? ⟨w.heap.size, 2, none⟩ = some (.int .i64 t.ev) := cell_keep bb5 c4_t_2
  have c5_t_3 : w5.cell? ⟨w.heap.size, 3, none⟩ = some (.bool t.bz) := cell_keep bb5 c4_t_3
  have c5_t_4 : w5.cell? ⟨w.heap.size, 4, none⟩ = some (.slice t.p t.kids.length t.cap) := cell_keep bb5 c4_t_4
  have l5_t : w.heap.size < w5.heap.size := by omega
  have m5_t : w.heap.size < w5.heap.size + 1 := by omega
  have c5_c_0 : w5.cell? ⟨w.heap.size + 1, 0, none⟩ = some (.bool c.b0) := cell_keep bb5 c4_c_0
  have c5_c_1 : w5.cell? ⟨w.heap.size + 1, 1, none⟩ = some (.bool c.b1) := cell_keep bb5 c4_c_1
  have c5_c_2 : w5.cell? ⟨w.heap.size + 1, 2, none⟩ = some (.bool c.b2) := cell_keep bb5 c4_c_2
  have c5_c_3 : w5.cell? ⟨w.heap.size + 1, 3, none⟩ = some (.bool c.b3) := cell_keep bb5 c4_c_3
  have c5_c_4 : w5.cell? ⟨w.heap.size + 1, 4, none⟩ = some (.bool c.b4) := cell_keep bb5 c4_c_4
  have c5_c_5 : w5.cell? ⟨w.heap.size + 1, 5, none⟩ = some (.bool c.b5) := cell_keep bb5 c4_c_5
  have c5_c_6 : w5.cell? ⟨w.heap.size + 1, 6, none⟩ = some (.bool c.b6) := cell_keep bb5 c4_c_6
  have c5_c_7 : w5.cell? ⟨w.heap.size + 1, 7, none⟩ = some (.slice c.p c.hs.length c.cap) := cell_keep bb5 c4_c_7
  have l5_c : w.heap.size + 1 < w5.heap.size := by omega
  have m5_c : w.heap.size + 1 < w5.heap.size + 1 := by omega
  have HT5 := Lib.hid (HT4.out.below bb5)
  have HC5 := Lib.hid (HC4.out.below bb5)
  have HL5 := Lib.hid (HL4.out.below bb5)
  have HM5 := Lib.hid (HM4.out.below bb5)
  have HH5 := Lib.hid (HH4.out.below bb5)
  have HE5 := Lib.hid (HE4.out.below bb5)
  have BE5 := Lib.hid be5
  clear be5 bb5 hb5 BE4 c4_t_0 c4_t_1 c4_t_2 c4_t_3 c4_t_4 l4_t m4_t c4_c_0 c4_c_1 c4_c_2 c4_c_3 c4_c_4 c4_c_5 c4_c_6 c4_c_7 l4_c m4_c HT4 HC4 HL4 HM4 HH4 HE4
  go_wp2_with fail
  refine (eval_at t c q3 cap3 hi _ (HT5.out.below (by repeat (first | exact Below.refl _ _ | assumption | refine below_drewN ?_ _ | refine Below.setCell ?_ (by first | (simp; done) | (simp; omega)) _ | refine Below.alloc ?_ (by first | (simp; done) | (simp; omega) | omega) _ | refine Below.drew ?_ | refine Below.trans ?_ (Below.mono (by assumption) (by first | (simp; done) | (simp; omega) | omega))))) (HC5.out.below (by repeat (first | exact Below.refl _ _ | assumption | refine below_drewN ?_ _ | refine Below.setCell ?_ (by first | (simp; done) | (simp; omega)) _ | refine Below.alloc ?_ (by first | (simp; done) | (simp; omega) | omega) _ | refine Below.drew ?_ | refine Below.trans ?_ (Below.mono (by assumption) (by first | (simp; done) | (simp; omega) | omega))))) (HH5.out.below (by repeat (first | exact Below.refl _ _ | assumption | refine below_drewN ?_ _ | refine Below.setCell ?_ (by first | (simp; done) | (simp; omega)) _ | refine Below.alloc ?_ (by first | (simp; done) | (simp; omega) | omega) _ | refine Below.drew ?_ | refine Below.trans ?_ (Below.mono (by assumption) (by first | (simp; done) | (simp; omega) | omega))))) (by omega) (HE5.out.below (by repeat (first | exact Below.refl _ _ | assumption | refine below_drewN ?_ _ | refine Below.setCell ?_ (by first | (simp; done) | (simp; omega)) _ | refine Below.alloc ?_ (by first | (simp; done) | (simp; omega) | omega) _ | refine Below.drew ?_ | refine Below.trans ?_ (Below.mono (by assumption) (by first | (simp; done) | (simp; omega) | omega)))))).mono ?_
  rintro e w6 ⟨rfl, hb6⟩
  rw [HD.out]
  simp only [R3]
  have hz6 := hb6.size
  (try simp at hz6)
  have bb6 : Below w5.heap.size w5 w6 := (by repeat (first | exact Below.refl _ _ | assumption | refine below_drewN ?_ _ | refine Below.setCell ?_ (by first | (simp; done) | (simp; omega)) _ | refine Below.alloc ?_ (by first | (simp; done) | (simp; omega) | omega) _ | refine Below.drew ?_ | refine Below.trans ?_ (Below.mono (by assumption) (by first | (simp; done) | (simp; omega) | omega))))
  have be6 : Below w.heap.size w w6 := BE5.out.trans (bb6.mono BE5.out.size)
  have c6_t_0 : w6.cell? ⟨w.heap.size, 0, none⟩ = some (.int .i64 t.kd) := cell_keep bb6 c5_t_0
  have c6_t_1 : w6.cell? ⟨w.heap.size, 1, none⟩ = some (.int .i64 t.n) := cell_keep bb6 c5_t_1
  have c6_t_2 : w6.cell? ⟨w.heap.size, 2, none⟩ = some (.int .i64 t.ev) := cell_keep bb6 c5_t_2
  have c6_t_3 : w6.cell? ⟨w.heap.size, 3, none⟩ = some (.bool t.bz) := cell_keep bb6 c5_t_3
  have c6_t_4 : w6.cell? ⟨w.heap.size, 4, none⟩ = some (.slice t.p t.kids.length t.cap) := cell_keep bb6 c5_t_4
  have l6_t : w.heap.size < w6.heap.size := by omega
  have m6_t : w.heap.size < w6.heap.size + 1 := by omega
  have c6_c_0 : w6.cell? ⟨w.heap.size + 1, 0, none⟩ = some (.bool c.b0) := cell_keep bb6 c5_c_0
  have c6_c_1 : w6.cell? ⟨w.heap.size + 1, 1, none⟩ = some (.bool c.b1) := cell_keep bb6 c5_c_1
  have c6_c_2 : w6.cell? ⟨w.heap.size + 1, 2, none⟩ = some (.bool c.b2) := cell_keep bb6 c5_c_2
  have c6_c_3 : w6.cell? ⟨w.heap.size + 1, 3, none⟩ = some (.bool c.b3) := cell_keep bb6 c5_c_3
  have c6_c_4 : w6.cell? ⟨w.heap.size + 1, 4, none⟩ = some (.bool c.b4) := cell_keep bb6 c5_c_4
  have c6_c_5 : w6.cell? ⟨w.heap.size + 1, 5, none⟩ = some (.bool c.b5) := cell_keep bb6 c5_c_5
  have c6_c_6 : w6.cell? ⟨w.heap.size + 1, 6, none⟩ = some (.bool c.b6) := cell_keep bb6 c5_c_6
  have c6_c_7 : w6.cell? ⟨w.heap.size + 1, 7, none⟩ = some (.slice c.p c.hs.length c.cap) := cell_keep bb6 c5_c_7
  have l6_c : w.heap.size + 1 < w6.heap.size := by omega
  have m6_c : w.heap.size + 1 < w6.heap.size + 1 := by omega
  have HT6 := Lib.hid (HT5.out.below bb6)
  have HC6 := Lib.hid (HC5.out.below bb6)
  have HL6 := Lib.hid (HL5.out.below bb6)
  have HM6 := Lib.hid (HM5.out.below bb6)
  have HH6 := Lib.hid (HH5.out.below bb6)
  have HE6 := Lib.hid (HE5.out.below bb6)
  have BE6 := Lib.hid be6
  clear be6 bb6 hb6 BE5 c5_t_0 c5_t_1 c5_t_2 c5_t_3 c5_t_4 l5_t m5_t c5_c_0 c5_c_1 c5_c_2 c5_c_3 c5_c_4 c5_c_5 c5_c_6 c5_c_7 l5_c m5_c HT5 HC5 HL5 HM5 HH5 HE5
  go_wp2_with fail
  refine (eval_wide t c q2 cap2 mid _ (HT6.out.below (by repeat (first | exact Below.refl _ _ | assumption | refine below_drewN ?_ _ | refine Below.setCell ?_ (by first | (simp; done) | (simp; omega)) _ | refine Below.alloc ?_ (by first | (simp; done) | (simp; omega) | omega) _ | refine Below.drew ?_ | refine Below.trans ?_ (Below.mono (by assumption) (by first | (simp; done) | (simp; omega) | omega))))) (HC6.out.below (by repeat (first | exact Below.refl _ _ | assumption | refine below_drewN ?_ _ | refine Below.setCell ?_ (by first | (simp; done) | (simp; omega)) _ | refine Below.alloc ?_ (by first | (simp; done) | (simp; omega) | omega) _ | refine Below.drew ?_ | refine Below.trans ?_ (Below.mono (by assumption) (by first | (simp; done) | (simp; omega) | omega))))) (HM6.out.below (by repeat (first | exact Below.refl _ _ | assumption | refine below_drewN ?_ _ | refine Below.setCell ?_ (by first | (simp; done) | (simp; omega)) _ | refine Below.alloc ?_ (by first | (simp; done) | (simp; omega) | omega) _ | refine Below.drew ?_ | refine Below.trans ?_ (Below.mono (by assumption) (by first | (simp; done) | (simp; omega) | omega))))) (HE6.out.below (by repeat (first | exact Below.refl _ _ | assumption | refine below_drewN ?_ _ | refine Below.setCell ?_ (by first | (simp; done) | (simp; omega)) _ | refine Below.alloc ?_ (by first | (simp; done) | (simp; omega) | omega) _ | refine Below.drew ?_ | refine Below.trans ?_ (Below.mono (by assumption) (by first | (simp; done) | (simp; omega) | omega)))))).mono ?_
  rintro e w7 ⟨rfl, hb7⟩
  rw [HF.out]
  simp only [R3]
  have hz7 := hb7.size
  (try simp at hz7)
  have bb7 : Below w6.heap.size w6 w7 := (by repeat (first | exact Below.refl _ _ | assumption | refine below_drewN ?_ _ | refine Below.setCell ?_ (by first | (simp; done) | (simp; omega)) _ | refine Below.alloc ?_ (by first | (simp; done) | (simp; omega) | omega) _ | refine Below.drew ?_ | refine Below.trans ?_ (Below.mono (by assumption) (by first | (simp; done) | (simp; omega) | omega))))
  have be7 : Below w.heap.size w w7 := BE6.out.trans (bb7.mono BE6.out.size)
  have c7_t_0 : w7.cell? ⟨w.heap.size, 0, none⟩ = some (.int .i64 t.kd) := cell_keep bb7 c6_t_0
  have c7_t_1 : w7.cell? ⟨w.heap.size, 1, none⟩ = some (.int .i64 t.n) := cell_keep bb7 c6_t_1
  have c7_t_2 : w7.cell? ⟨w.heap.size, 2, none⟩ = some (.int .i64 t.ev) := cell_keep bb7 c6_t_2
  have c7_t_3 : w7.cell? ⟨w.heap.size, 3, none⟩ = some (.bool t.bz) := cell_keep bb7 c6_t_3
  have c7_t_4 : w7.cell? ⟨w.heap.size, 4, none⟩ = some (.slice t.p t.kids.length t.cap) := cell_keep bb7 c6_t_4
  have l7_t : w.heap.size < w7.heap.size := by omega
  have m7_t : w.heap.size < w7.heap.size + 1 := by omega
  have c7_c_0 : w7.cell? ⟨w.heap.size + 1, 0, none⟩ = some (.bool c.b0) := cell_keep bb7 c6_c_0
  have c7_c_1 : w7.cell? ⟨w.heap.size + 1, 1, none⟩ = some (.bool c.b1) := cell_keep bb7 c6_c_1
  have c7_c_2 : w7.cell? ⟨w.heap.size + 1, 2, none⟩ = some (.bool c.b2) := cell_keep bb7 c6_c_2
  have c7_c_3 : w7.cell? ⟨w.heap.size + 1, 3, none⟩ = some (.bool c.b3) := cell_keep bb7 c6_c_3
  have c7_c_4 : w7.cell? ⟨w.heap.size + 1, 4, none⟩ = some (.bool c.b4) := cell_keep bb7 c6_c_4
  have c7_c_5 : w7.cell? ⟨w.heap.size + 1, 5, none⟩ = some (.bool c.b5) := cell_keep bb7 c6_c_5
  have c7_c_6 : w7.cell? ⟨w.heap.size + 1, 6, none⟩ = some (.bool c.b6) := cell_keep bb7 c6_c_6
  have c7_c_7 : w7.cell? ⟨w.heap.size + 1, 7, none⟩ = some (.slice c.p c.hs.length c.cap) := cell_keep bb7 c6_c_7
  have l7_c : w.heap.size + 1 < w7.heap.size := by omega
  have m7_c : w.heap.size + 1 < w7.heap.size + 1 := by omega
  have HT7 := Lib.hid (HT6.out.below bb7)
  have HC7 := Lib.hid (HC6.out.below bb7)
  have HL7 := Lib.hid (HL6.out.below bb7)
  have HM7 := Lib.hid (HM6.out.below bb7)
  have HH7 := Lib.hid (HH6.out.below bb7)
  have HE7 := Lib.hid (HE6.out.below bb7)
  have BE7 := Lib.hid be7
  clear be7 bb7 hb7 BE6 c6_t_0 c6_t_1 c6_t_2 c6_t_3 c6_t_4 l6_t m6_t c6_c_0 c6_c_1 c6_c_2 c6_c_3 c6_c_4 c6_c_5 c6_c_6 c6_c_7 l6_c m6_c HT6 HC6 HL6 HM6 HH6 HE6
  go_wp2_with fail
  refine (ordered_calls q1 q2 cap1 cap2 lo mid _ (by omega) (HL7.out.below (by repeat (first | exact Below.refl _ _ | assumption | refine below_drewN ?_ _ | refine Below.setCell ?_ (by first | (simp; done) | (simp; omega)) _ | refine Below.alloc ?_ (by first | (simp; done) | (simp; omega) | omega) _ | refine Below.drew ?_ | refine Below.trans ?_ (Below.mono (by assumption) (by first | (simp; done) | (simp; omega) | omega))))) (HM7.out.below (by repeat (first | exact Below.refl _ _ | assumption | refine below_drewN ?_ _ | refine Below.setCell ?_ (by first | (simp; done) | (simp; omega)) _ | refine Below.alloc ?_ (by first | (simp; done) | (simp; omega) | omega) _ | refine Below.drew ?_ | refine Below.trans ?_ (Below.mono (by assumption) (by first | (simp; done) | (simp; omega) | omega)))))).mono ?_
  rintro e w8 ⟨rfl, hb8⟩
  rw [HO1.out]
  have hz8 := hb8.size
  (try simp at hz8)
  have bb8 : Below w7.heap.size w7 w8 := (by repeat (first | exact Below.refl _ _ | assumption | refine below_drewN ?_ _ | refine Below.setCell ?_ (by first | (simp; done) | (simp; omega)) _ | refine Below.alloc ?_ (by first | (simp; done) | (simp; omega) | omega) _ | refine Below.drew ?_ | refine Below.trans ?_ (Below.mono (by assumption) (by first | (simp; done) | (simp; omega) | omega))))
  have be8 : Below w.heap.size w w8 := BE7.out.trans (bb8.mono BE7.out.size)
  have c8_t_0 : w8.cell? ⟨w.heap.size, 0, none⟩ = some (.int .i64 t.kd) := cell_keep bb8 c7_t_0
  have c8_t_1 : w8.cell? ⟨w.heap.size, 1, none⟩ = some (.int .i64 t.n) := cell_keep bb8 c7_t_1
  have c8_t_2 : w8.cell? ⟨w.heap.size, 2, none⟩ = some (.int .i64 t.ev) := cell_keep bb8 c7_t_2
  have c8_t_3 : w8.cell? ⟨w.heap.size, 3, none⟩ = some (.bool t.bz) := cell_keep bb8 c7_t_3
  have c8_t_4 : w8.cell? ⟨w.heap.size, 4, none⟩ = some (.slice t.p t.kids.length t.cap) := cell_keep bb8 c7_t_4
  have l8_t : w.heap.size < w8.heap.size := by omega
  have m8_t : w.heap.size < w8.heap.size + 1 := by omega
  have c8_c_0 : w8.cell? ⟨w.heap.size + 1, 0, none⟩ = some (.bool c.b0) := cell_keep bb8 c7_c_0
  have c8_c_1 : w8.cell? ⟨w.heap.size + 1, 1, none⟩ = some (.bool c.b1) := cell_keep bb8 c7_c_1
  have c8_c_2 : w8.cell? ⟨w.heap.size + 1, 2, none⟩ = some (.bool c.b2) := cell_keep bb8 c7_c_2
  have c8_c_3 : w8.cell? ⟨w.heap.size + 1, 3, none⟩ = some (.bool c.b3) := cell_keep bb8 c7_c_3
  have c8_c_4 : w8.cell? ⟨w.heap.size + 1, 4, none⟩ = some (.bool c.b4) := cell_keep bb8 c7_c_4
  have c8_c_5 : w8.cell? ⟨w.heap.size + 1, 5, none⟩ = some (.bool c.b5) := cell_keep bb8 c7_c_5
  have c8_c_6 : w8.cell? ⟨w.heap.size + 1, 6, none⟩ = some (.bool c.b6) := cell_keep bb8 c7_c_6
  have c8_c_7 : w8.cell? ⟨w.heap.size + 1, 7, none⟩ = some (.slice c.p c.hs.length c.cap) := cell_keep bb8 c7_c_7
  have l8_c : w.heap.size + 1 < w8.heap.size := by omega
  have m8_c : w.heap.size + 1 < w8.heap.size + 1 := by omega
  have HT8 := Lib.hid (HT7.out.below bb8)
  have HC8 := Lib.hid (HC7.out.below bb8)
  have HL8 := Lib.hid (HL7.out.below bb8)
  have HM8 := Lib.hid (HM7.out.below bb8)
  have HH8 := Lib.hid (HH7.out.below bb8)
  have HE8 := Lib.hid (HE7.out.below bb8)
  have BE8 := Lib.hid be8
  clear be8 bb8 hb8 BE7 c7_t_0 c7_t_1 c7_t_2 c7_t_3 c7_t_4 l7_t m7_t c7_c_0 c7_c_1 c7_c_2 c7_c_3 c7_c_4 c7_c_5 c7_c_6 c7_c_7 l7_c m7_c HT7 HC7 HL7 HM7 HH7 HE7
  go_wp2_with fail
  refine (ordered_calls q2 q3 cap2 cap3 mid hi _ (by omega) (HM8.out.below (by repeat (first | exact Below.refl _ _ | assumption | refine below_drewN ?_ _ | refine Below.setCell ?_ (by first | (simp; done) | (simp; omega)) _ | refine Below.alloc ?_ (by first | (simp; done) | (simp; omega) | omega) _ | refine Below.drew ?_ | refine Below.trans ?_ (Below.mono (by assumption) (by first | (simp; done) | (simp; omega) | omega))))) (HH8.out.below (by repeat (first | exact Below.refl _ _ | assumption | refine below_drewN ?_ _ | refine Below.setCell ?_ (by first | (simp; done) | (simp; omega)) _ | refine Below.alloc ?_ (by first | (simp; done) | (simp; omega) | omega) _ | refine Below.drew ?_ | refine Below.trans ?_ (Below.mono (by assumption) (by first | (simp; done) | (simp; omega) | omega)))))).mono ?_
  rintro e w9 ⟨rfl, hb9⟩
  rw [HO2.out]
  have hz9 := hb9.size
  (try simp at hz9)
  have bb9 : Below w8.heap.size w8 w9 := (by repeat (first | exact Below.refl _ _ | assumption | refine below_drewN ?_ _ | refine Below.setCell ?_ (by first | (simp; done) | (simp; omega)) _ | refine Below.alloc ?_ (by first | (simp; done) | (simp; omega) | omega) _ | refine Below.drew ?_ | refine Below.trans ?_ (Below.mono (by assumption) (by first | (simp; done) | (simp; omega) | omega))))
  have be9 : Below w.heap.size w w9 := BE8.out.trans (bb9.mono BE8.out.size)
  have c9_t_0 : w9.cell? ⟨w.heap.size, 0, none⟩ = some (.int .i64 t.kd) := cell_keep bb9 c8_t_0
  have c9_t_1 : w9.cell? ⟨w.heap.size, 1, none⟩ = some (.int .i64 t.n) := cell_keep bb9 c8_t_1
  have c9_t_2 : w9.cell? ⟨w.heap.size, 2, none⟩ = some (.int .i64 t.ev) := cell_keep bb9 c8_t_2
  have c9_t_3 : w9.cell? ⟨w.heap.size, 3, none⟩ = some (.bool t.bz) := cell_keep bb9 c8_t_3
  have c9_t_4 : w9.cell? ⟨w.heap.size, 4, none⟩ = some (.slice t.p t.kids.length t.cap) := cell_keep bb9 c8_t_4
  have l9_t : w.heap.size < w9.heap.size := by omega
  have m9_t : w.heap.size < w9.heap.size + 1 := by omega
  have c9_c_0 : w9.cell? ⟨w.heap.size + 1, 0, none⟩ = some (.bool c.b0) := cell_keep bb9 c8_c_0
  have c9_c_1 : w9.cell? ⟨w.heap.size + 1, 1, none⟩ = some (.bool c.b1) := cell_keep bb9 c8_c_1
  have c9_c_2 : w9.cell? ⟨w.heap.size + 1, 2, none⟩ = some (.bool c.b2) := cell_keep bb9 c8_c_2
  have c9_c_3 : w9.cell? ⟨w.heap.size + 1, 3, none⟩ = some (.bool c.b3) := cell_keep bb9 c8_c_3
  have c9_c_4 : w9.cell? ⟨w.heap.size + 1, 4, none⟩ = some (.bool c.b4) := cell_keep bb9 c8_c_4
  have c9_c_5 : w9.cell? ⟨w.heap.size + 1, 5, none⟩ = some (.bool c.b5) := cell_keep bb9 c8_c_5
  have c9_c_6 : w9.cell? ⟨w.heap.size + 1, 6, none⟩ = some (.bool c.b6) := cell_keep bb9 c8_c_6
  have c9_c_7 : w9.cell? ⟨w.heap.size + 1, 7, none⟩ = some (.slice c.p c.hs.length c.cap) := cell_keep bb9 c8_c_7
  have l9_c : w.heap.size + 1 < w9.heap.size := by omega
  have m9_c : w.heap.size + 1 < w9.heap.size + 1 := by omega
  have HT9 := Lib.hid (HT8.out.below bb9)
  have HC9 := Lib.hid (HC8.out.below bb9)
  have HL9 := Lib.hid (HL8.out.below bb9)
  have HM9 := Lib.hid (HM8.out.below bb9)
  have HH9 := Lib.hid (HH8.out.below bb9)
  have HE9 := Lib.hid (HE8.out.below bb9)
  have BE9 := Lib.hid be9
  clear be9 bb9 hb9 BE8 c8_t_0 c8_t_1 c8_t_2 c8_t_3 c8_t_4 l8_t m8_t c8_c_0 c8_c_1 c8_c_2 c8_c_3 c8_c_4 c8_c_5 c8_c_6 c8_c_7 l8_c m8_c HT8 HC8 HL8 HM8 HH8 HE8
  go_wp2_with fail
  go_ret
  exact ⟨rfl, (by have q := BE9.out; repeat (first | exact q | refine Below.setCell ?_ (by first | (simp; done) | omega | (simp; omega)) _ | refine Below.alloc ?_ (by first | (simp; done) | omega | (simp; omega)) _ | refine below_drewN ?_ _ | refine Below.drew ?_))⟩
theorem bounds_law (t : Dl.T) (c : Cal) (q1 q2 q3 : Option Addr) (cap1 cap2 cap3 : Nat) (lo mid hi : List Wh) (w : World) (ht : TAt w t) (hn : LenOK t) (hc : CalIn w c) (hl : EvAt w q1 lo) (hm : EvAt w q2 mid) (hh : EvAt w q3 hi) (he : Env w) : Calls Tryd.prog 4 #[.agg #[.int .i64 t.kd, .int .i64 t.n, .int .i64 t.ev, .bool t.bz, .slice t.p t.kids.length t.cap], .agg #[.bool c.b0, .bool c.b1, .bool c.b2, .bool c.b3, .bool c.b4, .bool c.b5, .bool c.b6, .slice c.p c.hs.length c.cap], .slice q1 lo.length cap1, .slice q2 mid.length cap2, .slice q3 hi.length cap3] w fun e w' => e = .returned (.bool true) ∧ Below w.heap.size w w' := by
  cases hs : smallB t lo with
  | false => exact bo_s1 t c q1 q2 q3 cap1 cap2 cap3 lo mid hi w ht hn hc hl hm hh he hs
  | true =>
    have hln := small_len hs
    cases hs2 : smallB t hi with
    | false => exact bo_s2 t c q1 q2 q3 cap1 cap2 cap3 lo mid hi w ht hn hc hl hm hh he hs hs2
    | true =>
      have hlh := small_len hs2
      rcases bounds_forms t c lo hi with hb | hb | hb | ⟨a, b, hb, ha, hd, hab⟩
      · exact bo_e1 t c q1 q2 q3 cap1 cap2 cap3 lo mid hi w ht hn hc hl hm hh he hs hs2 hln hlh hb
      · exact bo_e2 t c q1 q2 q3 cap1 cap2 cap3 lo mid hi w ht hn hc hl hm hh he hs hs2 hln hlh hb
      · exact bo_u t c q1 q2 q3 cap1 cap2 cap3 lo mid hi w ht hn hc hl hm hh he hs hs2 hln hlh hb
      · obtain ⟨⟨d, ok, h⟩, hf⟩ : ∃ x, evalS t c mid = x := ⟨_, rfl⟩
        cases ho1 : ordL lo mid with
        | false => exact bo_k1 t c q1 q2 q3 cap1 cap2 cap3 lo mid hi a b d h ok w ht hn hc hl hm hh he hs hs2 hln hlh hb ha hd hab hf ho1
        | true =>
          have hlm : mid.length ≤ 40 := by rw [← ordL_len ho1]; exact hln
          cases ho2 : ordL mid hi with
          | false => exact bo_k2 t c q1 q2 q3 cap1 cap2 cap3 lo mid hi a b d h ok w ht hn hc hl hm hh he hs hs2 hln hlh hb ha hd hab hf hlm ho1 ho2
          | true =>
            rcases mid_forms ha hd ho1 ho2 with h1 | ⟨d', h1, hd1, hd2⟩
            · exact bo_k3 t c q1 q2 q3 cap1 cap2 cap3 lo mid hi a b w ht hn hc hl hm hh he hs hs2 hln hlh hb ha hd hab h1 hlm ho1 ho2
            · exact bo_k4 t c q1 q2 q3 cap1 cap2 cap3 lo mid hi a b d' w ht hn hc hl hm hh he hs hs2 hln hlh hb ha hd hab h1 hlm ho1 ho2 hd1 hd2
end Go.Proofs.YtlbfnafniobnaaaDoor

/- The reference's Instant for all arguments, Span. -/
import Derived.Test.YtcacmigfpahicaaRzD
namespace Go.Proofs.Ytcacmigfpahicaa
open Go.RowKit Go.Shelf

theorem rinstant_calls (o : Int) (p : Option Addr) (cs : List (Int × Int)) (cap : Nat) (d m : Int) (later : Bool) (w : World) (hch : Chg w p cs) :
    Calls Try.prog 14 #[.agg #[.int .i64 o, .slice p cs.length cap], .int .i64 d, .int .i64 m, .bool later] w fun e w' => e = .returned (R2 (Zn.instantS o cs d m later)) ∧ Below w.heap.size w w' := by
  by_cases hg : Zn.good o cs d m
  · have h := hg.1
    have e1 : Zn.instS o cs d m = Zn.inst 0 o cs (d * 1440 + m) := by unfold Zn.instS; rw [if_pos hg]
    have e2 : Zn.instantS o cs d m later = Zn.pickS (Zn.inst 0 o cs (d * 1440 + m)) (Zn.skip o cs (d * 1440 + m)) later := by unfold Zn.instantS; rw [if_pos hg]
    have h2 := Zn.inst_two cs 0 o (d * 1440 + m) h.1 h.2.1 h.2.2.2
    rcases hi : Zn.inst 0 o cs (d * 1440 + m) with _ | ⟨x, _ | ⟨y, _ | ⟨z, l⟩⟩⟩
    · have e3 : Zn.instantS o cs d m later = Zn.skS o cs (d * 1440 + m) := by
        rw [e2, hi]
        unfold Zn.pickS Zn.skS
        cases Zn.skip o cs (d * 1440 + m) <;> rfl
      rw [e3]
      exact rinstant_none o p cs cap d m later w hch hg _ rfl (e1.trans hi)
    · have e3 : Zn.instantS o cs d m later = (x, 0) := by rw [e2, hi]; unfold Zn.pickS; cases later <;> rfl
      rw [e3]
      cases later with
      | false => exact rinstant_one_f o p cs cap d m w hch hg x (e1.trans hi)
      | true => exact rinstant_one_t o p cs cap d m w hch hg x (e1.trans hi)
    · cases later with
      | false =>
        have e3 : Zn.instantS o cs d m false = (x, 0) := by rw [e2, hi]; rfl
        rw [e3]
        exact rinstant_two_f o p cs cap d m w hch hg x y (e1.trans hi)
      | true =>
        have e3 : Zn.instantS o cs d m true = (y, 0) := by rw [e2, hi]; rfl
        rw [e3]
        exact rinstant_two_t o p cs cap d m w hch hg x y (e1.trans hi)
    · rw [hi] at h2
      simp at h2
  · exact rinstant_bad o p cs cap d m later w hch hg
set_option maxHeartbeats 800000 in
theorem rspan_bad (o : Int) (p : Option Addr) (cs : List (Int × Int)) (cap : Nat) (d : Int) (w : World) (hch : Chg w p cs) (h : ¬ Zn.Ok o cs) :
    Calls Try.prog 16 #[.agg #[.int .i64 o, .slice p cs.length cap], .int .i64 d] w fun e w' => e = .returned (R3 (0, 0, 1)) ∧ Below w.heap.size w w' := by
  have HC := Lib.hid hch
  have H := Lib.hid h
  clear hch h
  go_enter Try.func16, Try.ntmps16
  go_wp2_with fail
  refine (rvalid_no (HC.out.below (by repeat (first | exact Below.refl _ _ | assumption | refine below_drewN ?_ _ | refine Below.setCell ?_ (by first | (simp; done) | (simp; omega)) _ | refine Below.alloc ?_ (by first | (simp; done) | (simp; omega) | omega) _ | refine Below.drew ?_ | refine Below.trans ?_ (Below.mono (by assumption) (by first | (simp; done) | (simp; omega) | omega))))) H.out).mono ?_
  rintro e w1 ⟨rfl, hb1⟩
  go_wp2_with fail
  go_ret3
  exact ⟨rfl, (by repeat (first | exact Below.refl _ _ | assumption | refine below_drewN ?_ _ | refine Below.setCell ?_ (by first | (simp; done) | (simp; omega)) _ | refine Below.alloc ?_ (by first | (simp; done) | (simp; omega) | omega) _ | refine Below.drew ?_ | refine Below.trans ?_ (Below.mono (by assumption) (by first | (simp; done) | (simp; omega) | omega))))⟩
set_option maxHeartbeats 800000 in
theorem rspan_neg (o : Int) (p : Option Addr) (cs : List (Int × Int)) (cap : Nat) (d : Int) (w : World) (hch : Chg w p cs) (h : Zn.Ok o cs) (hd : d < 0) :
    Calls Try.prog 16 #[.agg #[.int .i64 o, .slice p cs.length cap], .int .i64 d] w fun e w' => e = .returned (R3 (0, 0, 1)) ∧ Below w.heap.size w w' := by
  have HC := Lib.hid hch
  have H := Lib.hid h
  clear hch h
  go_enter Try.func16, Try.ntmps16
  go_wp2_with fail
  refine (rvalid_yes (HC.out.below (by repeat (first | exact Below.refl _ _ | assumption | refine below_drewN ?_ _ | refine Below.setCell ?_ (by first | (simp; done) | (simp; omega)) _ | refine Below.alloc ?_ (by first | (simp; done) | (simp; omega) | omega) _ | refine Below.drew ?_ | refine Below.trans ?_ (Below.mono (by assumption) (by first | (simp; done) | (simp; omega) | omega))))) H.out).mono ?_
  rintro e w1 ⟨rfl, hb1⟩
  go_wp2_with fail
  go_ret3
  exact ⟨rfl, (by repeat (first | exact Below.refl _ _ | assumption | refine below_drewN ?_ _ | refine Below.setCell ?_ (by first | (simp; done) | (simp; omega)) _ | refine Below.alloc ?_ (by first | (simp; done) | (simp; omega) | omega) _ | refine Below.drew ?_ | refine Below.trans ?_ (Below.mono (by assumption) (by first | (simp; done) | (simp; omega) | omega))))⟩
set_option maxHeartbeats 800000 in
theorem rspan_far (o : Int) (p : Option Addr) (cs : List (Int × Int)) (cap : Nat) (d : Int) (w : World) (hch : Chg w p cs) (h : Zn.Ok o cs) (h0 : ¬ d < 0) (hd : 73047 < d) :
    Calls Try.prog 16 #[.agg #[.int .i64 o, .slice p cs.length cap], .int .i64 d] w fun e w' => e = .returned (R3 (0, 0, 1)) ∧ Below w.heap.size w w' := by
  have HC := Lib.hid hch
  have H := Lib.hid h
  clear hch h
  go_enter Try.func16, Try.ntmps16
  go_wp2_with fail
  refine (rvalid_yes (HC.out.below (by repeat (first | exact Below.refl _ _ | assumption | refine below_drewN ?_ _ | refine Below.setCell ?_ (by first | (simp; done) | (simp; omega)) _ | refine Below.alloc ?_ (by first | (simp; done) | (simp; omega) | omega) _ | refine Below.drew ?_ | refine Below.trans ?_ (Below.mono (by assumption) (by first | (simp; done) | (simp; omega) | omega))))) H.out).mono ?_
  rintro e w1 ⟨rfl, hb1⟩
  go_wp2_with fail
  go_ret3
  exact ⟨rfl, (by repeat (first | exact Below.refl _ _ | assumption | refine below_drewN ?_ _ | refine Below.setCell ?_ (by first | (simp; done) | (simp; omega)) _ | refine Below.alloc ?_ (by first | (simp; done) | (simp; omega) | omega) _ | refine Below.drew ?_ | refine Below.trans ?_ (Below.mono (by assumption) (by first | (simp; done) | (simp; omega) | omega))))⟩
set_option maxHeartbeats 800000 in
theorem rspan_e1 (o : Int) (p : Option Addr) (cs : List (Int × Int)) (cap : Nat) (d : Int) (w : World) (hch : Chg w p cs) (h : Zn.Ok o cs) (hd : 0 ≤ d ∧ d ≤ 73047) (x e1 : Int) (hi : Zn.instantS o cs d 0 false = (x, e1)) (he : e1 ≠ 0) :
    Calls Try.prog 16 #[.agg #[.int .i64 o, .slice p cs.length cap], .int .i64 d] w fun e w' => e = .returned (R3 (0, 0, e1)) ∧ Below w.heap.size w w' := by
  have HC := Lib.hid hch
  obtain ⟨hd0, hd1⟩ := hd
  have wd : wrap64 (d + 1) = d + 1 := by unfold wrap64; omega
  have hd2 : ¬ 73047 < d := by omega
  have hd3 : ¬ d < 0 := by omega
  have H := Lib.hid h
  have HI := Lib.hid hi
  clear hch h hi
  go_enter Try.func16, Try.ntmps16
  go_wp2_with fail
  refine (rvalid_yes (HC.out.below (by repeat (first | exact Below.refl _ _ | assumption | refine below_drewN ?_ _ | refine Below.setCell ?_ (by first | (simp; done) | (simp; omega)) _ | refine Below.alloc ?_ (by first | (simp; done) | (simp; omega) | omega) _ | refine Below.drew ?_ | refine Below.trans ?_ (Below.mono (by assumption) (by first | (simp; done) | (simp; omega) | omega))))) H.out).mono ?_
  rintro e w1 ⟨rfl, hb1⟩
  have hz1 := hb1.size
  (try simp at hz1)
  have c1 : w1.cell? ⟨w.heap.size, 0, none⟩ = some (.int .i64 o) := cell_keep hb1 (by go_simp)
  have c2 : w1.cell? ⟨w.heap.size, 1, none⟩ = some (.slice p cs.length cap) := cell_keep hb1 (by go_simp)
  have be1 : Below w.heap.size w w1 := (by repeat (first | exact Below.refl _ _ | assumption | refine below_drewN ?_ _ | refine Below.setCell ?_ (by first | (simp; done) | (simp; omega)) _ | refine Below.alloc ?_ (by first | (simp; done) | (simp; omega) | omega) _ | refine Below.drew ?_ | refine Below.trans ?_ (Below.mono (by assumption) (by first | (simp; done) | (simp; omega) | omega))))
  have BE1 := Lib.hid be1
  clear hb1 be1
  go_wp2_with fail
  refine (rinstant_calls o p cs cap d 0 false w1 (HC.out.below BE1.out)).mono ?_
  rintro e w3 ⟨rfl, hb3⟩
  rw [HI.out]
  unfold R2
  have hz3 := hb3.size
  have d1 : w3.cell? ⟨w.heap.size, 0, none⟩ = some (.int .i64 o) := cell_keep hb3 c1
  have d2 : w3.cell? ⟨w.heap.size, 1, none⟩ = some (.slice p cs.length cap) := cell_keep hb3 c2
  have l1 : w.heap.size < w3.heap.size := by omega
  have BE3 := Lib.hid (BE1.out.trans (hb3.mono BE1.out.size))
  clear hb3 c1 c2
  have hbe : (e1 == 0) = false := by simpa using he
  clear he
  go_wp2_with fail
  go_ret3
  exact ⟨rfl, BE3.out⟩
set_option maxHeartbeats 800000 in
theorem rspan_e2 (o : Int) (p : Option Addr) (cs : List (Int × Int)) (cap : Nat) (d : Int) (w : World) (hch : Chg w p cs) (h : Zn.Ok o cs) (hd : 0 ≤ d ∧ d ≤ 73047) (x y e2 : Int) (hi : Zn.instantS o cs d 0 false = (x, 0)) (hj : Zn.instantS o cs (d + 1) 0 false = (y, e2)) (he : e2 ≠ 0) :
    Calls Try.prog 16 #[.agg #[.int .i64 o, .slice p cs.length cap], .int .i64 d] w fun e w' => e = .returned (R3 (0, 0, e2)) ∧ Below w.heap.size w w' := by
  have HC := Lib.hid hch
  obtain ⟨hd0, hd1⟩ := hd
  have wd : wrap64 (d + 1) = d + 1 := by unfold wrap64; omega
  have hd2 : ¬ 73047 < d := by omega
  have hd3 : ¬ d < 0 := by omega
  have H := Lib.hid h
  have HI := Lib.hid hi
  have HJ := Lib.hid hj
  clear hch h hi hj
  go_enter Try.func16, Try.ntmps16
  go_wp2_with fail
  refine (rvalid_yes (HC.out.below (by repeat (first | exact Below.refl _ _ | assumption | refine below_drewN ?_ _ | refine Below.setCell ?_ (by first | (simp; done) | (simp; omega)) _ | refine Below.alloc ?_ (by first | (simp; done) | (simp; omega) | omega) _ | refine Below.drew ?_ | refine Below.trans ?_ (Below.mono (by assumption) (by first | (simp; done) | (simp; omega) | omega))))) H.out).mono ?_
  rintro e w1 ⟨rfl, hb1⟩
  have hz1 := hb1.size
  (try simp at hz1)
  have c1 : w1.cell? ⟨w.heap.size, 0, none⟩ = some (.int .i64 o) := cell_keep hb1 (by go_simp)
  have c2 : w1.cell? ⟨w.heap.size, 1, none⟩ = some (.slice p cs.length cap) := cell_keep hb1 (by go_simp)
  have be1 : Below w.heap.size w w1 := (by repeat (first | exact Below.refl _ _ | assumption | refine below_drewN ?_ _ | refine Below.setCell ?_ (by first | (simp; done) | (simp; omega)) _ | refine Below.alloc ?_ (by first | (simp; done) | (simp; omega) | omega) _ | refine Below.drew ?_ | refine Below.trans ?_ (Below.mono (by assumption) (by first | (simp; done) | (simp; omega) | omega))))
  have BE1 := Lib.hid be1
  clear hb1 be1
  go_wp2_with fail
  refine (rinstant_calls o p cs cap d 0 false w1 (HC.out.below BE1.out)).mono ?_
  rintro e w3 ⟨rfl, hb3⟩
  rw [HI.out]
  unfold R2
  have hz3 := hb3.size
  have d1 : w3.cell? ⟨w.heap.size, 0, none⟩ = some (.int .i64 o) := cell_keep hb3 c1
  have d2 : w3.cell? ⟨w.heap.size, 1, none⟩ = some (.slice p cs.length cap) := cell_keep hb3 c2
  have l1 : w.heap.size < w3.heap.size := by omega
  have BE3 := Lib.hid (BE1.out.trans (hb3.mono BE1.out.size))
  clear hb3 c1 c2
  go_wp2_with fail
  refine (rinstant_calls o p cs cap (d + 1) 0 false w3 (HC.out.below BE3.out)).mono ?_
  rintro e w5 ⟨rfl, hb5⟩
  rw [HJ.out]
  unfold R2
  have BE5 := Lib.hid (BE3.out.trans (hb5.mono BE3.out.size))
  clear hb5
  have hbe : (e2 == 0) = false := by simpa using he
  clear he
  go_wp2_with fail
  go_ret3
  exact ⟨rfl, BE5.out⟩
set_option maxHeartbeats 800000 in
theorem rspan_in (o : Int) (p : Option Addr) (cs : List (Int × Int)) (cap : Nat) (d : Int) (w : World) (hch : Chg w p cs) (h : Zn.Ok o cs) (hd : 0 ≤ d ∧ d ≤ 73047) (x y : Int) (hi : Zn.instantS o cs d 0 false = (x, 0)) (hj : Zn.instantS o cs (d + 1) 0 false = (y, 0)) :
    Calls Try.prog 16 #[.agg #[.int .i64 o, .slice p cs.length cap], .int .i64 d] w fun e w' => e = .returned (R3 (x, y, 0)) ∧ Below w.heap.size w w' := by
  have HC := Lib.hid hch
  obtain ⟨hd0, hd1⟩ := hd
  have wd : wrap64 (d + 1) = d + 1 := by unfold wrap64; omega
  have hd2 : ¬ 73047 < d := by omega
  have hd3 : ¬ d < 0 := by omega
  have H := Lib.hid h
  have HI := Lib.hid hi
  have HJ := Lib.hid hj
  clear hch h hi hj
  go_enter Try.func16, Try.ntmps16
  go_wp2_with fail
  refine (rvalid_yes (HC.out.below (by repeat (first | exact Below.refl _ _ | assumption | refine below_drewN ?_ _ | refine Below.setCell ?_ (by first | (simp; done) | (simp; omega)) _ | refine Below.alloc ?_ (by first | (simp; done) | (simp; omega) | omega) _ | refine Below.drew ?_ | refine Below.trans ?_ (Below.mono (by assumption) (by first | (simp; done) | (simp; omega) | omega))))) H.out).mono ?_
  rintro e w1 ⟨rfl, hb1⟩
  have hz1 := hb1.size
  (try simp at hz1)
  have c1 : w1.cell? ⟨w.heap.size, 0, none⟩ = some (.int .i64 o) := cell_keep hb1 (by go_simp)
  have c2 : w1.cell? ⟨w.heap.size, 1, none⟩ = some (.slice p cs.length cap) := cell_keep hb1 (by go_simp)
  have be1 : Below w.heap.size w w1 := (by repeat (first | exact Below.refl _ _ | assumption | refine below_drewN ?_ _ | refine Below.setCell ?_ (by first | (simp; done) | (simp; omega)) _ | refine Below.alloc ?_ (by first | (simp; done) | (simp; omega) | omega) _ | refine Below.drew ?_ | refine Below.trans ?_ (Below.mono (by assumption) (by first | (simp; done) | (simp; omega) | omega))))
  have BE1 := Lib.hid be1
  clear hb1 be1
  go_wp2_with fail
  refine (rinstant_calls o p cs cap d 0 false w1 (HC.out.below BE1.out)).mono ?_
  rintro e w3 ⟨rfl, hb3⟩
  rw [HI.out]
  unfold R2
  have hz3 := hb3.size
  have d1 : w3.cell? ⟨w.heap.size, 0, none⟩ = some (.int .i64 o) := cell_keep hb3 c1
  have d2 : w3.cell? ⟨w.heap.size, 1, none⟩ = some (.slice p cs.length cap) := cell_keep hb3 c2
  have l1 : w.heap.size < w3.heap.size := by omega
  have BE3 := Lib.hid (BE1.out.trans (hb3.mono BE1.out.size))
  clear hb3 c1 c2
  go_wp2_with fail
  refine (rinstant_calls o p cs cap (d + 1) 0 false w3 (HC.out.below BE3.out)).mono ?_
  rintro e w5 ⟨rfl, hb5⟩
  rw [HJ.out]
  unfold R2
  have BE5 := Lib.hid (BE3.out.trans (hb5.mono BE3.out.size))
  clear hb5
  go_wp2_with fail
  go_ret3
  exact ⟨rfl, BE5.out⟩
theorem rspan_calls (o : Int) (p : Option Addr) (cs : List (Int × Int)) (cap : Nat) (d : Int) (w : World) (hch : Chg w p cs) :
    Calls Try.prog 16 #[.agg #[.int .i64 o, .slice p cs.length cap], .int .i64 d] w fun e w' => e = .returned (R3 (Zn.spanS o cs d)) ∧ Below w.heap.size w w' := by
  by_cases h : Zn.Ok o cs
  · by_cases hd : 0 ≤ d ∧ d ≤ 73047
    · rcases hi : Zn.instantS o cs d 0 false with ⟨x, e1⟩
      rcases hj : Zn.instantS o cs (d + 1) 0 false with ⟨y, e2⟩
      unfold Zn.spanS
      rw [if_pos ⟨h, hd⟩, hi, hj]
      by_cases h1 : e1 = 0
      · subst h1
        by_cases h2 : e2 = 0
        · subst h2
          exact rspan_in o p cs cap d w hch h hd x y hi hj
        · rw [if_pos rfl, if_neg h2]
          exact rspan_e2 o p cs cap d w hch h hd x y e2 hi hj h2
      · rw [if_neg h1]
        exact rspan_e1 o p cs cap d w hch h hd x e1 hi h1
    · unfold Zn.spanS
      rw [if_neg (fun k => hd k.2)]
      by_cases h0 : 0 ≤ d
      · exact rspan_far o p cs cap d w hch h (by omega) (by omega)
      · exact rspan_neg o p cs cap d w hch h (by omega)
  · unfold Zn.spanS
    rw [if_neg (fun k => h k.1)]
    exact rspan_bad o p cs cap d w hch h
end Go.Proofs.Ytcacmigfpahicaa

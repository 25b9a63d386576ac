/- Eval where an event is not known. -/
import Derived.Test.YtlbfnafniobnaaaDoorDlO
namespace Go.Proofs.YtlbfnafniobnaaaDoor
open Go.RowKit Go.Shelf

theorem okN_mono {t : Dl.T} {a b : Int} (hab : a ≤ b) (h : okN t a = true) : okN t b = true := by
  unfold okN at h ⊢
  cases hs : shp t.kd with
  | none => rw [hs] at h; simp at h
  | some s =>
    rw [hs] at h
    simp only [fitB, Bool.and_eq_true, decide_eq_true_eq] at h ⊢
    refine ⟨⟨h.1.1, h.1.2.1, ?_⟩, h.2⟩
    have h9 := h.1.2.2
    cases he : s.event with
    | true =>
      rw [he] at h9
      simp only [if_true] at h9 ⊢
      omega
    | false =>
      rw [he] at h9
      simp at h9 ⊢
      omega
theorem vld_mono {a b : Int} (hab : a ≤ b) : ∀ (l : List (Dl.T × Nat)) (c : Nat), vld a c l = true → vld b c l = true
  | [], _, _ => rfl
  | x :: l, c, h => by
    rw [vld] at h ⊢
    simp only [Bool.and_eq_true] at h ⊢
    exact ⟨⟨⟨okN_mono hab h.1.1.1, h.1.1.2⟩, h.1.2⟩, vld_mono hab l (c + 1) h.2⟩
theorem valid_facts {t : Dl.T} {n : Nat} (h : validT t (n : Nat) = true) : n ≤ 1000 ∧ validT t 1000 = true ∧ (Dl.nds t 1).length ≤ 40 ∧ ∀ x ∈ Dl.nds t 1, okN x.1 (n : Nat) = true := by
  unfold validT at h
  simp only [Bool.and_eq_true, decide_eq_true_eq] at h
  have hl := vld_len _ _ 0 (by omega) h.2
  refine ⟨by omega, ?_, by omega, vld_all _ 0 h.2⟩
  unfold validT
  simp only [Bool.and_eq_true, decide_eq_true_eq]
  exact ⟨⟨by omega, by omega⟩, vld_mono h.1.2 _ 0 h.2⟩
theorem compact_mem {zs : List Int} {x : Int} (h : x ∈ Lib.compact zs) : x ∈ zs := by
  unfold Lib.compact Lib.compactUpTo at h
  obtain ⟨j, hj, rfl⟩ := List.mem_map.1 h
  have hj' := List.mem_range.1 (List.mem_filter.1 hj).1
  simp [hj']
theorem evT_in {t : Dl.T} {i : Int} (h : i ∈ evT t) : ∃ x ∈ Dl.nds t 1, isEv x.1 = true ∧ x.1.ev = i := by
  unfold evT at h
  have := compact_mem h
  rw [List.mem_mergeSort] at this
  obtain ⟨x, hx, rfl⟩ := List.mem_map.1 this
  obtain ⟨h1, h2⟩ := List.mem_filter.1 hx
  exact ⟨x, h1, h2, rfl⟩
theorem ev_range {t : Dl.T} {n : Int} (h : okN t n = true) (hi : isEv t = true) : 0 ≤ t.ev ∧ t.ev < n := by
  unfold isEv at hi
  simp only [Bool.or_eq_true, beq_iff_eq] at hi
  rcases okN_cases h with ⟨hk, _⟩ | ⟨_, h1, h2⟩ | ⟨_, _, _, h1, h2⟩ | ⟨hk, _⟩ | ⟨hk, _⟩ | ⟨hk, _⟩ | ⟨hk, _⟩ | ⟨hk, _⟩
  · omega
  · exact ⟨h1, h2⟩
  · exact ⟨h1, h2⟩
  all_goals omega
theorem evT_len (t : Dl.T) : (evT t).length ≤ (Dl.nds t 1).length := by
  unfold evT
  refine Nat.le_trans (compact_len _) ?_
  rw [List.length_mergeSort]
  exact evs_len _
theorem events_any (n₀ : Nat) (t : Dl.T) (w : World) (ht : TIn n₀ w t) (hn : n₀ ≤ w.heap.size) (h : validT t 1000 = true) :
    Calls Tryd.prog 14 #[.agg #[.int .i64 t.kd, .int .i64 t.n, .int .i64 t.ev, .bool t.bz, .slice t.p t.kids.length t.cap]] w fun e w' => ∃ p cap, e = .returned (.slice p (evT t).length cap) ∧ Hols w' p (evT t) ∧ Below w.heap.size w w' := events_in n₀ t w ht hn h
set_option maxRecDepth 100000 in
set_option maxHeartbeats 1600000 in
open Classical in
theorem eval_unknown (n₀ : Nat) (t : Dl.T) (c : Cal) (q : Option Addr) (capq : Nat) (l : List Wh) (w : World) (ht : TIn n₀ w t) (hn : n₀ ≤ w.heap.size) (hc : CalIn w c) (hl : EvAt w q l) (hv : decide (CalOK c) = true) (hvt : validT t l.length = true) (hg : goodE l = true) (hkn : ((evT t).any fun i => !(knownAt l i)) = true) :
    Calls Tryd.prog 12 #[TV t, .agg #[.bool c.b0, .bool c.b1, .bool c.b2, .bool c.b3, .bool c.b4, .bool c.b5, .bool c.b6, .slice c.p c.hs.length c.cap], .slice q l.length capq] w fun e w' => e = .returned (.tuple #[.int .i64 0, .bool false, .int .i64 0]) ∧ Below w.heap.size w w' := by
  have HT := Lib.hid ht
  have HC := Lib.hid hc
  have HL := Lib.hid hl
  clear ht hc hl
  have HV := Lib.hid hv
  clear hv
  obtain ⟨hl1, hv1, hnl, hok⟩ := valid_facts hvt
  have HV1 := Lib.hid hv1
  have HRG := Lib.hid (show ∀ i ∈ evT t, 0 ≤ i ∧ i < l.length from fun i hi => by
    obtain ⟨x, hx, h1, rfl⟩ := evT_in hi
    exact ev_range (hok x hx) h1)
  have hel : (evT t).length ≤ 1000 := by have := evT_len t; omega
  have HOK := Lib.hid hok
  clear hv1 hok
  have HVT := Lib.hid hvt
  clear hvt
  have HG := Lib.hid hg
  clear hg
  have HKN := Lib.hid hkn
  clear hkn
  unfold TV
  go_enter Tryd.func12, Tryd.ntmps12
  go_wp2_with fail
  obtain ⟨U, hU⟩ : ∃ U, U = (((((w.alloc (.cells #[.int .i64 t.kd, .int .i64 t.n, .int .i64 t.ev, .bool t.bz, .slice t.p t.kids.length t.cap] 24)).alloc (.cells #[.bool c.b0, .bool c.b1, .bool c.b2, .bool c.b3, .bool c.b4, .bool c.b5, .bool c.b6, .slice c.p c.hs.length c.cap] 28)).alloc (.cells #[.slice q l.length capq] 29)).alloc (.cells #[.int .i64 0] 3)).alloc (.cells #[.bool false] 4)).alloc (.cells #[.int .i64 0] 33) := ⟨_, rfl⟩
  obtain ⟨hec, hbU⟩ := ec_start w t c q l.length capq U hU
  rw [← hU]
  clear hU
  refine (calvalid_any c U (HC.out.below hbU)).mono ?_
  rintro e U1 ⟨rfl, hb⟩
  rw [HV.out]
  have hbU1 : Below w.heap.size w U1 := hbU.trans (hb.mono hbU.size)
  have hec := hec.below hb
  clear hb
  have q0 : U1.cell? ⟨w.heap.size, 0, none⟩ = some (.int .i64 t.kd) := by simp [World.cell?, hec.hT, TCells]
  have q1 : U1.cell? ⟨w.heap.size, 1, none⟩ = some (.int .i64 t.n) := by simp [World.cell?, hec.hT, TCells]
  have q2 : U1.cell? ⟨w.heap.size, 2, none⟩ = some (.int .i64 t.ev) := by simp [World.cell?, hec.hT, TCells]
  have q3 : U1.cell? ⟨w.heap.size, 3, none⟩ = some (.bool t.bz) := by simp [World.cell?, hec.hT, TCells]
  have q4 : U1.cell? ⟨w.heap.size, 4, none⟩ = some (.slice t.p t.kids.length t.cap) := by simp [World.cell?, hec.hT, TCells]
  have k0 : U1.cell? ⟨w.heap.size + 1, 0, none⟩ = some (.bool c.b0) := by simp [World.cell?, hec.hC]
  have k1 : U1.cell? ⟨w.heap.size + 1, 1, none⟩ = some (.bool c.b1) := by simp [World.cell?, hec.hC]
  have k2 : U1.cell? ⟨w.heap.size + 1, 2, none⟩ = some (.bool c.b2) := by simp [World.cell?, hec.hC]
  have k3 : U1.cell? ⟨w.heap.size + 1, 3, none⟩ = some (.bool c.b3) := by simp [World.cell?, hec.hC]
  have k4 : U1.cell? ⟨w.heap.size + 1, 4, none⟩ = some (.bool c.b4) := by simp [World.cell?, hec.hC]
  have k5 : U1.cell? ⟨w.heap.size + 1, 5, none⟩ = some (.bool c.b5) := by simp [World.cell?, hec.hC]
  have k6 : U1.cell? ⟨w.heap.size + 1, 6, none⟩ = some (.bool c.b6) := by simp [World.cell?, hec.hC]
  have k7 : U1.cell? ⟨w.heap.size + 1, 7, none⟩ = some (.slice c.p c.hs.length c.cap) := by simp [World.cell?, hec.hC]
  have e0 := (box_cell hec.hE).1
  obtain ⟨r3, f3⟩ := box_cell hec.hI
  obtain ⟨r4, f4⟩ := box_cell hec.hB
  obtain ⟨r5, f5⟩ := box_cell hec.hR
  have l5 : w.heap.size + 5 < U1.heap.size := (Array.getElem?_eq_some_iff.1 hec.hR).1
  have l0 : w.heap.size < U1.heap.size := by omega
  have l1 : w.heap.size + 1 < U1.heap.size := by omega
  have l2 : w.heap.size + 2 < U1.heap.size := by omega
  have l3 : w.heap.size + 3 < U1.heap.size := by omega
  have l4 : w.heap.size + 4 < U1.heap.size := by omega
  have m0 : w.heap.size < U1.heap.size + 1 := by omega
  have m1 : w.heap.size + 1 < U1.heap.size + 1 := by omega
  have m2 : w.heap.size + 2 < U1.heap.size + 1 := by omega
  have m3 : w.heap.size + 3 < U1.heap.size + 1 := by omega
  have m4 : w.heap.size + 4 < U1.heap.size + 1 := by omega
  have m5 : w.heap.size + 5 < U1.heap.size + 1 := by omega
  go_wp2_with fail
  refine ((show Calls Tryd.prog 17 #[.agg #[.int .i64 t.kd, .int .i64 t.n, .int .i64 t.ev, .bool t.bz, .slice t.p t.kids.length t.cap], .int .i64 (l.length : Nat)] U1 _ from valid_any n₀ t (l.length : Nat) U1 (TIn.below (hbU1.mono hn) t HT.out) (Nat.le_trans hn hbU1.size))).mono ?_
  rintro e U2 ⟨rfl, hb⟩
  rw [HVT.out]
  have hbU2 : Below w.heap.size w U2 := hbU1.trans (hb.mono hbU1.size)
  have hec := hec.below hb
  clear hb q0 q1 q2 q3 q4 k0 k1 k2 k3 k4 k5 k6 k7 e0 r3 f3 r4 f4 r5 f5 l0 l1 l2 l3 l4 l5 m0 m1 m2 m3 m4 m5
  have q0 : U2.cell? ⟨w.heap.size, 0, none⟩ = some (.int .i64 t.kd) := by simp [World.cell?, hec.hT, TCells]
  have q1 : U2.cell? ⟨w.heap.size, 1, none⟩ = some (.int .i64 t.n) := by simp [World.cell?, hec.hT, TCells]
  have q2 : U2.cell? ⟨w.heap.size, 2, none⟩ = some (.int .i64 t.ev) := by simp [World.cell?, hec.hT, TCells]
  have q3 : U2.cell? ⟨w.heap.size, 3, none⟩ = some (.bool t.bz) := by simp [World.cell?, hec.hT, TCells]
  have q4 : U2.cell? ⟨w.heap.size, 4, none⟩ = some (.slice t.p t.kids.length t.cap) := by simp [World.cell?, hec.hT, TCells]
  have k0 : U2.cell? ⟨w.heap.size + 1, 0, none⟩ = some (.bool c.b0) := by simp [World.cell?, hec.hC]
  have k1 : U2.cell? ⟨w.heap.size + 1, 1, none⟩ = some (.bool c.b1) := by simp [World.cell?, hec.hC]
  have k2 : U2.cell? ⟨w.heap.size + 1, 2, none⟩ = some (.bool c.b2) := by simp [World.cell?, hec.hC]
  have k3 : U2.cell? ⟨w.heap.size + 1, 3, none⟩ = some (.bool c.b3) := by simp [World.cell?, hec.hC]
  have k4 : U2.cell? ⟨w.heap.size + 1, 4, none⟩ = some (.bool c.b4) := by simp [World.cell?, hec.hC]
  have k5 : U2.cell? ⟨w.heap.size + 1, 5, none⟩ = some (.bool c.b5) := by simp [World.cell?, hec.hC]
  have k6 : U2.cell? ⟨w.heap.size + 1, 6, none⟩ = some (.bool c.b6) := by simp [World.cell?, hec.hC]
  have k7 : U2.cell? ⟨w.heap.size + 1, 7, none⟩ = some (.slice c.p c.hs.length c.cap) := by simp [World.cell?, hec.hC]
  have e0 := (box_cell hec.hE).1
  obtain ⟨r3, f3⟩ := box_cell hec.hI
  obtain ⟨r4, f4⟩ := box_cell hec.hB
  obtain ⟨r5, f5⟩ := box_cell hec.hR
  have l5 : w.heap.size + 5 < U2.heap.size := (Array.getElem?_eq_some_iff.1 hec.hR).1
  have l0 : w.heap.size < U2.heap.size := by omega
  have l1 : w.heap.size + 1 < U2.heap.size := by omega
  have l2 : w.heap.size + 2 < U2.heap.size := by omega
  have l3 : w.heap.size + 3 < U2.heap.size := by omega
  have l4 : w.heap.size + 4 < U2.heap.size := by omega
  have m0 : w.heap.size < U2.heap.size + 1 := by omega
  have m1 : w.heap.size + 1 < U2.heap.size + 1 := by omega
  have m2 : w.heap.size + 2 < U2.heap.size + 1 := by omega
  have m3 : w.heap.size + 3 < U2.heap.size + 1 := by omega
  have m4 : w.heap.size + 4 < U2.heap.size + 1 := by omega
  have m5 : w.heap.size + 5 < U2.heap.size + 1 := by omega
  go_wp2_with fail
  refine (areValid_calls q capq l U2 hl1 (HL.out.below hbU2)).mono ?_
  rintro e U3 ⟨rfl, hb⟩
  rw [HG.out]
  have hbU3 : Below w.heap.size w U3 := hbU2.trans (hb.mono hbU2.size)
  have hec := hec.below hb
  clear hb q0 q1 q2 q3 q4 k0 k1 k2 k3 k4 k5 k6 k7 e0 r3 f3 r4 f4 r5 f5 l0 l1 l2 l3 l4 l5 m0 m1 m2 m3 m4 m5
  have q0 : U3.cell? ⟨w.heap.size, 0, none⟩ = some (.int .i64 t.kd) := by simp [World.cell?, hec.hT, TCells]
  have q1 : U3.cell? ⟨w.heap.size, 1, none⟩ = some (.int .i64 t.n) := by simp [World.cell?, hec.hT, TCells]
  have q2 : U3.cell? ⟨w.heap.size, 2, none⟩ = some (.int .i64 t.ev) := by simp [World.cell?, hec.hT, TCells]
  have q3 : U3.cell? ⟨w.heap.size, 3, none⟩ = some (.bool t.bz) := by simp [World.cell?, hec.hT, TCells]
  have q4 : U3.cell? ⟨w.heap.size, 4, none⟩ = some (.slice t.p t.kids.length t.cap) := by simp [World.cell?, hec.hT, TCells]
  have k0 : U3.cell? ⟨w.heap.size + 1, 0, none⟩ = some (.bool c.b0) := by simp [World.cell?, hec.hC]
  have k1 : U3.cell? ⟨w.heap.size + 1, 1, none⟩ = some (.bool c.b1) := by simp [World.cell?, hec.hC]
  have k2 : U3.cell? ⟨w.heap.size + 1, 2, none⟩ = some (.bool c.b2) := by simp [World.cell?, hec.hC]
  have k3 : U3.cell? ⟨w.heap.size + 1, 3, none⟩ = some (.bool c.b3) := by simp [World.cell?, hec.hC]
  have k4 : U3.cell? ⟨w.heap.size + 1, 4, none⟩ = some (.bool c.b4) := by simp [World.cell?, hec.hC]
  have k5 : U3.cell? ⟨w.heap.size + 1, 5, none⟩ = some (.bool c.b5) := by simp [World.cell?, hec.hC]
  have k6 : U3.cell? ⟨w.heap.size + 1, 6, none⟩ = some (.bool c.b6) := by simp [World.cell?, hec.hC]
  have k7 : U3.cell? ⟨w.heap.size + 1, 7, none⟩ = some (.slice c.p c.hs.length c.cap) := by simp [World.cell?, hec.hC]
  have e0 := (box_cell hec.hE).1
  obtain ⟨r3, f3⟩ := box_cell hec.hI
  obtain ⟨r4, f4⟩ := box_cell hec.hB
  obtain ⟨r5, f5⟩ := box_cell hec.hR
  have l5 : w.heap.size + 5 < U3.heap.size := (Array.getElem?_eq_some_iff.1 hec.hR).1
  have l0 : w.heap.size < U3.heap.size := by omega
  have l1 : w.heap.size + 1 < U3.heap.size := by omega
  have l2 : w.heap.size + 2 < U3.heap.size := by omega
  have l3 : w.heap.size + 3 < U3.heap.size := by omega
  have l4 : w.heap.size + 4 < U3.heap.size := by omega
  have m0 : w.heap.size < U3.heap.size + 1 := by omega
  have m1 : w.heap.size + 1 < U3.heap.size + 1 := by omega
  have m2 : w.heap.size + 2 < U3.heap.size + 1 := by omega
  have m3 : w.heap.size + 3 < U3.heap.size + 1 := by omega
  have m4 : w.heap.size + 4 < U3.heap.size + 1 := by omega
  have m5 : w.heap.size + 5 < U3.heap.size + 1 := by omega
  go_wp2_with fail
  refine (events_any n₀ t U3 (TIn.below (hbU3.mono hn) t HT.out) (Nat.le_trans hn hbU3.size) HV1.out).mono ?_
  rintro e U4 ⟨pe, capE, rfl, hol, hb⟩
  have hbU4 : Below w.heap.size w U4 := hbU3.trans (hb.mono hbU3.size)
  have hec := hec.below hb
  have HOL := Lib.hid hol
  clear hb hol q0 q1 q2 q3 q4 k0 k1 k2 k3 k4 k5 k6 k7 e0 r3 f3 r4 f4 r5 f5 l0 l1 l2 l3 l4 l5 m0 m1 m2 m3 m4 m5
  have q0 : U4.cell? ⟨w.heap.size, 0, none⟩ = some (.int .i64 t.kd) := by simp [World.cell?, hec.hT, TCells]
  have q1 : U4.cell? ⟨w.heap.size, 1, none⟩ = some (.int .i64 t.n) := by simp [World.cell?, hec.hT, TCells]
  have q2 : U4.cell? ⟨w.heap.size, 2, none⟩ = some (.int .i64 t.ev) := by simp [World.cell?, hec.hT, TCells]
  have q3 : U4.cell? ⟨w.heap.size, 3, none⟩ = some (.bool t.bz) := by simp [World.cell?, hec.hT, TCells]
  have q4 : U4.cell? ⟨w.heap.size, 4, none⟩ = some (.slice t.p t.kids.length t.cap) := by simp [World.cell?, hec.hT, TCells]
  have k0 : U4.cell? ⟨w.heap.size + 1, 0, none⟩ = some (.bool c.b0) := by simp [World.cell?, hec.hC]
  have k1 : U4.cell? ⟨w.heap.size + 1, 1, none⟩ = some (.bool c.b1) := by simp [World.cell?, hec.hC]
  have k2 : U4.cell? ⟨w.heap.size + 1, 2, none⟩ = some (.bool c.b2) := by simp [World.cell?, hec.hC]
  have k3 : U4.cell? ⟨w.heap.size + 1, 3, none⟩ = some (.bool c.b3) := by simp [World.cell?, hec.hC]
  have k4 : U4.cell? ⟨w.heap.size + 1, 4, none⟩ = some (.bool c.b4) := by simp [World.cell?, hec.hC]
  have k5 : U4.cell? ⟨w.heap.size + 1, 5, none⟩ = some (.bool c.b5) := by simp [World.cell?, hec.hC]
  have k6 : U4.cell? ⟨w.heap.size + 1, 6, none⟩ = some (.bool c.b6) := by simp [World.cell?, hec.hC]
  have k7 : U4.cell? ⟨w.heap.size + 1, 7, none⟩ = some (.slice c.p c.hs.length c.cap) := by simp [World.cell?, hec.hC]
  have e0 := (box_cell hec.hE).1
  obtain ⟨r3, f3⟩ := box_cell hec.hI
  obtain ⟨r4, f4⟩ := box_cell hec.hB
  obtain ⟨r5, f5⟩ := box_cell hec.hR
  have l5 : w.heap.size + 5 < U4.heap.size := (Array.getElem?_eq_some_iff.1 hec.hR).1
  have l0 : w.heap.size < U4.heap.size := by omega
  have l1 : w.heap.size + 1 < U4.heap.size := by omega
  have l2 : w.heap.size + 2 < U4.heap.size := by omega
  have l3 : w.heap.size + 3 < U4.heap.size := by omega
  have l4 : w.heap.size + 4 < U4.heap.size := by omega
  have m0 : w.heap.size < U4.heap.size + 1 := by omega
  have m1 : w.heap.size + 1 < U4.heap.size + 1 := by omega
  have m2 : w.heap.size + 2 < U4.heap.size + 1 := by omega
  have m3 : w.heap.size + 3 < U4.heap.size + 1 := by omega
  have m4 : w.heap.size + 4 < U4.heap.size + 1 := by omega
  have m5 : w.heap.size + 5 < U4.heap.size + 1 := by omega
  go_wp2_with fail
  refine (known_calls pe q capE capq (w.heap.size + 2) (evT t) l U4 hel HOL.out (HL.out.below hbU4) hec.hE HRG.out).mono ?_
  rintro e U5 ⟨rfl, hb⟩
  rw [HKN.out]
  have hbU5 : Below w.heap.size w U5 := hbU4.trans (hb.mono hbU4.size)
  have hec := hec.below hb
  clear hb q0 q1 q2 q3 q4 k0 k1 k2 k3 k4 k5 k6 k7 e0 r3 f3 r4 f4 r5 f5 l0 l1 l2 l3 l4 l5 m0 m1 m2 m3 m4 m5
  have q0 : U5.cell? ⟨w.heap.size, 0, none⟩ = some (.int .i64 t.kd) := by simp [World.cell?, hec.hT, TCells]
  have q1 : U5.cell? ⟨w.heap.size, 1, none⟩ = some (.int .i64 t.n) := by simp [World.cell?, hec.hT, TCells]
  have q2 : U5.cell? ⟨w.heap.size, 2, none⟩ = some (.int .i64 t.ev) := by simp [World.cell?, hec.hT, TCells]
  have q3 : U5.cell? ⟨w.heap.size, 3, none⟩ = some (.bool t.bz) := by simp [World.cell?, hec.hT, TCells]
  have q4 : U5.cell? ⟨w.heap.size, 4, none⟩ = some (.slice t.p t.kids.length t.cap) := by simp [World.cell?, hec.hT, TCells]
  have k0 : U5.cell? ⟨w.heap.size + 1, 0, none⟩ = some (.bool c.b0) := by simp [World.cell?, hec.hC]
  have k1 : U5.cell? ⟨w.heap.size + 1, 1, none⟩ = some (.bool c.b1) := by simp [World.cell?, hec.hC]
  have k2 : U5.cell? ⟨w.heap.size + 1, 2, none⟩ = some (.bool c.b2) := by simp [World.cell?, hec.hC]
  have k3 : U5.cell? ⟨w.heap.size + 1, 3, none⟩ = some (.bool c.b3) := by simp [World.cell?, hec.hC]
  have k4 : U5.cell? ⟨w.heap.size + 1, 4, none⟩ = some (.bool c.b4) := by simp [World.cell?, hec.hC]
  have k5 : U5.cell? ⟨w.heap.size + 1, 5, none⟩ = some (.bool c.b5) := by simp [World.cell?, hec.hC]
  have k6 : U5.cell? ⟨w.heap.size + 1, 6, none⟩ = some (.bool c.b6) := by simp [World.cell?, hec.hC]
  have k7 : U5.cell? ⟨w.heap.size + 1, 7, none⟩ = some (.slice c.p c.hs.length c.cap) := by simp [World.cell?, hec.hC]
  have e0 := (box_cell hec.hE).1
  obtain ⟨r3, f3⟩ := box_cell hec.hI
  obtain ⟨r4, f4⟩ := box_cell hec.hB
  obtain ⟨r5, f5⟩ := box_cell hec.hR
  have l5 : w.heap.size + 5 < U5.heap.size := (Array.getElem?_eq_some_iff.1 hec.hR).1
  have l0 : w.heap.size < U5.heap.size := by omega
  have l1 : w.heap.size + 1 < U5.heap.size := by omega
  have l2 : w.heap.size + 2 < U5.heap.size := by omega
  have l3 : w.heap.size + 3 < U5.heap.size := by omega
  have l4 : w.heap.size + 4 < U5.heap.size := by omega
  have m0 : w.heap.size < U5.heap.size + 1 := by omega
  have m1 : w.heap.size + 1 < U5.heap.size + 1 := by omega
  have m2 : w.heap.size + 2 < U5.heap.size + 1 := by omega
  have m3 : w.heap.size + 3 < U5.heap.size + 1 := by omega
  have m4 : w.heap.size + 4 < U5.heap.size + 1 := by omega
  have m5 : w.heap.size + 5 < U5.heap.size + 1 := by omega
  go_wp2_with fail
  refine bodyPost_ret (v := .tuple #[.int .i64 0, .bool false, .int .i64 0]) (by simp [results, Tryd.f12, go_sem, r3, r4, r5]) rfl ⟨rfl, ?_⟩
  have q := hbU5
  repeat (first | exact q | refine Below.setCell ?_ (by first | (simp; done) | (simp; omega)) _)
end Go.Proofs.YtlbfnafniobnaaaDoor

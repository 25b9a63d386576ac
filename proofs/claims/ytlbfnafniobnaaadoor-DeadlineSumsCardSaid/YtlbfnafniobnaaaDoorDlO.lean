/- Eval's refusals. -/
import Derived.Test.YtlbfnafniobnaaaDoorDlN
namespace Go.Proofs.YtlbfnafniobnaaaDoor
open Go.RowKit Go.Shelf

/-- the arguments and results of Eval in their blocks -/
structure EC (W : World) (B : Nat) (t : Dl.T) (c : Cal) (q : Option Addr) (n capq : Nat) : Prop where
  hT : W.heap[B]? = some (.cells (TCells t) 24 (0, 0))
  hC : W.heap[B + 1]? = some (.cells #[.bool c.b0, .bool c.b1, .bool c.b2, .bool c.b3, .bool c.b4, .bool c.b5, .bool c.b6, .slice c.p c.hs.length c.cap] 28 (0, 0))
  hE : W.heap[B + 2]? = some (.cells #[.slice q n capq] 29 (0, 0))
  hI : W.heap[B + 3]? = some (.cells #[.int .i64 0] 3 (0, 0))
  hB : W.heap[B + 4]? = some (.cells #[.bool false] 4 (0, 0))
  hR : W.heap[B + 5]? = some (.cells #[.int .i64 0] 33 (0, 0))
theorem EC.below {W W' : World} {B : Nat} {t : Dl.T} {c : Cal} {q : Option Addr} {n capq : Nat} (h : EC W B t c q n capq) (hb : Below W.heap.size W W') : EC W' B t c q n capq := by
  have k : ∀ {j : Nat} {o : Obj}, W.heap[j]? = some o → W'.heap[j]? = some o := fun ho => (hb.block _ (Array.getElem?_eq_some_iff.1 ho).1).trans ho
  exact ⟨k h.hT, k h.hC, k h.hE, k h.hI, k h.hB, k h.hR⟩
theorem ec_start (w : World) (t : Dl.T) (c : Cal) (q : Option Addr) (n capq : Nat) (U : World) (hU : U = (((((w.alloc (.cells #[.int .i64 t.kd, .int .i64 t.n, .int .i64 t.ev, .bool t.bz, .slice t.p t.kids.length t.cap] 24)).alloc (.cells #[.bool c.b0, .bool c.b1, .bool c.b2, .bool c.b3, .bool c.b4, .bool c.b5, .bool c.b6, .slice c.p c.hs.length c.cap] 28)).alloc (.cells #[.slice q n capq] 29)).alloc (.cells #[.int .i64 0] 3)).alloc (.cells #[.bool false] 4)).alloc (.cells #[.int .i64 0] 33)) :
    EC U w.heap.size t c q n capq ∧ Below w.heap.size w U := by
  subst hU
  refine ⟨⟨?_, ?_, ?_, ?_, ?_, ?_⟩, (by repeat (first | exact Below.refl _ _ | assumption | refine below_drewN ?_ _ | refine Below.setCell ?_ (by first | (simp; done) | (simp; omega)) _ | refine Below.alloc ?_ (by first | (simp; done) | (simp; omega) | omega) _ | refine Below.drew ?_ | refine Below.trans ?_ (Below.mono (by assumption) (by first | (simp; done) | (simp; omega) | omega))))⟩
  all_goals repeat (first | exact heap_new (by simp) | refine (Below.heap_alloc _ _ _ (by first | (simp; done) | (simp; omega))).trans ?_)
set_option maxRecDepth 100000 in
set_option maxHeartbeats 1600000 in
open Classical in
theorem eval_cal (n₀ : Nat) (t : Dl.T) (c : Cal) (q : Option Addr) (capq : Nat) (l : List Wh) (w : World) (ht : TIn n₀ w t) (_hn : n₀ ≤ w.heap.size) (hc : CalIn w c) (hl : EvAt w q l) (hv : decide (CalOK c) = false) :
    Calls Tryd.prog 12 #[TV t, .agg #[.bool c.b0, .bool c.b1, .bool c.b2, .bool c.b3, .bool c.b4, .bool c.b5, .bool c.b6, .slice c.p c.hs.length c.cap], .slice q l.length capq] w fun e w' => e = .returned (.tuple #[.int .i64 0, .bool false, .int .i64 1]) ∧ Below w.heap.size w w' := by
  have HT := Lib.hid ht
  have HC := Lib.hid hc
  have HL := Lib.hid hl
  clear ht hc hl
  have HV := Lib.hid hv
  clear hv
  unfold TV
  go_enter Tryd.func12, Tryd.ntmps12
  go_wp2_with fail
  obtain ⟨U, hU⟩ : ∃ U, U = (((((w.alloc (.cells #[.int .i64 t.kd, .int .i64 t.n, .int .i64 t.ev, .bool t.bz, .slice t.p t.kids.length t.cap] 24)).alloc (.cells #[.bool c.b0, .bool c.b1, .bool c.b2, .bool c.b3, .bool c.b4, .bool c.b5, .bool c.b6, .slice c.p c.hs.length c.cap] 28)).alloc (.cells #[.slice q l.length capq] 29)).alloc (.cells #[.int .i64 0] 3)).alloc (.cells #[.bool false] 4)).alloc (.cells #[.int .i64 0] 33) := ⟨_, rfl⟩
  obtain ⟨hec, hbU⟩ := ec_start w t c q l.length capq U hU
  rw [← hU]
  clear hU
  refine (calvalid_any c U (HC.out.below hbU)).mono ?_
  rintro e U1 ⟨rfl, hb⟩
  rw [HV.out]
  have hbU1 : Below w.heap.size w U1 := hbU.trans (hb.mono hbU.size)
  have hec := hec.below hb
  clear hb
  have q0 : U1.cell? ⟨w.heap.size, 0, none⟩ = some (.int .i64 t.kd) := by simp [World.cell?, hec.hT, TCells]
  have q1 : U1.cell? ⟨w.heap.size, 1, none⟩ = some (.int .i64 t.n) := by simp [World.cell?, hec.hT, TCells]
  have q2 : U1.cell? ⟨w.heap.size, 2, none⟩ = some (.int .i64 t.ev) := by simp [World.cell?, hec.hT, TCells]
  have q3 : U1.cell? ⟨w.heap.size, 3, none⟩ = some (.bool t.bz) := by simp [World.cell?, hec.hT, TCells]
  have q4 : U1.cell? ⟨w.heap.size, 4, none⟩ = some (.slice t.p t.kids.length t.cap) := by simp [World.cell?, hec.hT, TCells]
  have k0 : U1.cell? ⟨w.heap.size + 1, 0, none⟩ = some (.bool c.b0) := by simp [World.cell?, hec.hC]
  have k1 : U1.cell? ⟨w.heap.size + 1, 1, none⟩ = some (.bool c.b1) := by simp [World.cell?, hec.hC]
  have k2 : U1.cell? ⟨w.heap.size + 1, 2, none⟩ = some (.bool c.b2) := by simp [World.cell?, hec.hC]
  have k3 : U1.cell? ⟨w.heap.size + 1, 3, none⟩ = some (.bool c.b3) := by simp [World.cell?, hec.hC]
  have k4 : U1.cell? ⟨w.heap.size + 1, 4, none⟩ = some (.bool c.b4) := by simp [World.cell?, hec.hC]
  have k5 : U1.cell? ⟨w.heap.size + 1, 5, none⟩ = some (.bool c.b5) := by simp [World.cell?, hec.hC]
  have k6 : U1.cell? ⟨w.heap.size + 1, 6, none⟩ = some (.bool c.b6) := by simp [World.cell?, hec.hC]
  have k7 : U1.cell? ⟨w.heap.size + 1, 7, none⟩ = some (.slice c.p c.hs.length c.cap) := by simp [World.cell?, hec.hC]
  have e0 := (box_cell hec.hE).1
  obtain ⟨r3, f3⟩ := box_cell hec.hI
  obtain ⟨r4, f4⟩ := box_cell hec.hB
  obtain ⟨r5, f5⟩ := box_cell hec.hR
  have l5 : w.heap.size + 5 < U1.heap.size := (Array.getElem?_eq_some_iff.1 hec.hR).1
  have l0 : w.heap.size < U1.heap.size := by omega
  have l1 : w.heap.size + 1 < U1.heap.size := by omega
  have l2 : w.heap.size + 2 < U1.heap.size := by omega
  have l3 : w.heap.size + 3 < U1.heap.size := by omega
  have l4 : w.heap.size + 4 < U1.heap.size := by omega
  have m0 : w.heap.size < U1.heap.size + 1 := by omega
  have m1 : w.heap.size + 1 < U1.heap.size + 1 := by omega
  have m2 : w.heap.size + 2 < U1.heap.size + 1 := by omega
  have m3 : w.heap.size + 3 < U1.heap.size + 1 := by omega
  have m4 : w.heap.size + 4 < U1.heap.size + 1 := by omega
  have m5 : w.heap.size + 5 < U1.heap.size + 1 := by omega
  go_wp2_with fail
  refine bodyPost_ret (v := .tuple #[.int .i64 0, .bool false, .int .i64 1]) (by simp [results, Tryd.f12, go_sem, r3, r4, r5]) rfl ⟨rfl, ?_⟩
  have q := hbU1
  repeat (first | exact q | refine Below.setCell ?_ (by first | (simp; done) | (simp; omega)) _)
set_option maxRecDepth 100000 in
set_option maxHeartbeats 1600000 in
open Classical in
theorem eval_term (n₀ : Nat) (t : Dl.T) (c : Cal) (q : Option Addr) (capq : Nat) (l : List Wh) (w : World) (ht : TIn n₀ w t) (hn : n₀ ≤ w.heap.size) (hc : CalIn w c) (hl : EvAt w q l) (hv : decide (CalOK c) = true) (hvt : validT t l.length = false) :
    Calls Tryd.prog 12 #[TV t, .agg #[.bool c.b0, .bool c.b1, .bool c.b2, .bool c.b3, .bool c.b4, .bool c.b5, .bool c.b6, .slice c.p c.hs.length c.cap], .slice q l.length capq] w fun e w' => e = .returned (.tuple #[.int .i64 0, .bool false, .int .i64 1]) ∧ Below w.heap.size w w' := by
  have HT := Lib.hid ht
  have HC := Lib.hid hc
  have HL := Lib.hid hl
  clear ht hc hl
  have HV := Lib.hid hv
  clear hv
  have HVT := Lib.hid hvt
  clear hvt
  unfold TV
  go_enter Tryd.func12, Tryd.ntmps12
  go_wp2_with fail
  obtain ⟨U, hU⟩ : ∃ U, U = (((((w.alloc (.cells #[.int .i64 t.kd, .int .i64 t.n, .int .i64 t.ev, .bool t.bz, .slice t.p t.kids.length t.cap] 24)).alloc (.cells #[.bool c.b0, .bool c.b1, .bool c.b2, .bool c.b3, .bool c.b4, .bool c.b5, .bool c.b6, .slice c.p c.hs.length c.cap] 28)).alloc (.cells #[.slice q l.length capq] 29)).alloc (.cells #[.int .i64 0] 3)).alloc (.cells #[.bool false] 4)).alloc (.cells #[.int .i64 0] 33) := ⟨_, rfl⟩
  obtain ⟨hec, hbU⟩ := ec_start w t c q l.length capq U hU
  rw [← hU]
  clear hU
  refine (calvalid_any c U (HC.out.below hbU)).mono ?_
  rintro e U1 ⟨rfl, hb⟩
  rw [HV.out]
  have hbU1 : Below w.heap.size w U1 := hbU.trans (hb.mono hbU.size)
  have hec := hec.below hb
  clear hb
  have q0 : U1.cell? ⟨w.heap.size, 0, none⟩ = some (.int .i64 t.kd) := by simp [World.cell?, hec.hT, TCells]
  have q1 : U1.cell? ⟨w.heap.size, 1, none⟩ = some (.int .i64 t.n) := by simp [World.cell?, hec.hT, TCells]
  have q2 : U1.cell? ⟨w.heap.size, 2, none⟩ = some (.int .i64 t.ev) := by simp [World.cell?, hec.hT, TCells]
  have q3 : U1.cell? ⟨w.heap.size, 3, none⟩ = some (.bool t.bz) := by simp [World.cell?, hec.hT, TCells]
  have q4 : U1.cell? ⟨w.heap.size, 4, none⟩ = some (.slice t.p t.kids.length t.cap) := by simp [World.cell?, hec.hT, TCells]
  have k0 : U1.cell? ⟨w.heap.size + 1, 0, none⟩ = some (.bool c.b0) := by simp [World.cell?, hec.hC]
  have k1 : U1.cell? ⟨w.heap.size + 1, 1, none⟩ = some (.bool c.b1) := by simp [World.cell?, hec.hC]
  have k2 : U1.cell? ⟨w.heap.size + 1, 2, none⟩ = some (.bool c.b2) := by simp [World.cell?, hec.hC]
  have k3 : U1.cell? ⟨w.heap.size + 1, 3, none⟩ = some (.bool c.b3) := by simp [World.cell?, hec.hC]
  have k4 : U1.cell? ⟨w.heap.size + 1, 4, none⟩ = some (.bool c.b4) := by simp [World.cell?, hec.hC]
  have k5 : U1.cell? ⟨w.heap.size + 1, 5, none⟩ = some (.bool c.b5) := by simp [World.cell?, hec.hC]
  have k6 : U1.cell? ⟨w.heap.size + 1, 6, none⟩ = some (.bool c.b6) := by simp [World.cell?, hec.hC]
  have k7 : U1.cell? ⟨w.heap.size + 1, 7, none⟩ = some (.slice c.p c.hs.length c.cap) := by simp [World.cell?, hec.hC]
  have e0 := (box_cell hec.hE).1
  obtain ⟨r3, f3⟩ := box_cell hec.hI
  obtain ⟨r4, f4⟩ := box_cell hec.hB
  obtain ⟨r5, f5⟩ := box_cell hec.hR
  have l5 : w.heap.size + 5 < U1.heap.size := (Array.getElem?_eq_some_iff.1 hec.hR).1
  have l0 : w.heap.size < U1.heap.size := by omega
  have l1 : w.heap.size + 1 < U1.heap.size := by omega
  have l2 : w.heap.size + 2 < U1.heap.size := by omega
  have l3 : w.heap.size + 3 < U1.heap.size := by omega
  have l4 : w.heap.size + 4 < U1.heap.size := by omega
  have m0 : w.heap.size < U1.heap.size + 1 := by omega
  have m1 : w.heap.size + 1 < U1.heap.size + 1 := by omega
  have m2 : w.heap.size + 2 < U1.heap.size + 1 := by omega
  have m3 : w.heap.size + 3 < U1.heap.size + 1 := by omega
  have m4 : w.heap.size + 4 < U1.heap.size + 1 := by omega
  have m5 : w.heap.size + 5 < U1.heap.size + 1 := by omega
  go_wp2_with fail
  refine ((show Calls Tryd.prog 17 #[.agg #[.int .i64 t.kd, .int .i64 t.n, .int .i64 t.ev, .bool t.bz, .slice t.p t.kids.length t.cap], .int .i64 (l.length : Nat)] U1 _ from valid_any n₀ t (l.length : Nat) U1 (TIn.below (hbU1.mono hn) t HT.out) (Nat.le_trans hn hbU1.size))).mono ?_
  rintro e U2 ⟨rfl, hb⟩
  rw [HVT.out]
  have hbU2 : Below w.heap.size w U2 := hbU1.trans (hb.mono hbU1.size)
  have hec := hec.below hb
  clear hb q0 q1 q2 q3 q4 k0 k1 k2 k3 k4 k5 k6 k7 e0 r3 f3 r4 f4 r5 f5 l0 l1 l2 l3 l4 l5 m0 m1 m2 m3 m4 m5
  have q0 : U2.cell? ⟨w.heap.size, 0, none⟩ = some (.int .i64 t.kd) := by simp [World.cell?, hec.hT, TCells]
  have q1 : U2.cell? ⟨w.heap.size, 1, none⟩ = some (.int .i64 t.n) := by simp [World.cell?, hec.hT, TCells]
  have q2 : U2.cell? ⟨w.heap.size, 2, none⟩ = some (.int .i64 t.ev) := by simp [World.cell?, hec.hT, TCells]
  have q3 : U2.cell? ⟨w.heap.size, 3, none⟩ = some (.bool t.bz) := by simp [World.cell?, hec.hT, TCells]
  have q4 : U2.cell? ⟨w.heap.size, 4, none⟩ = some (.slice t.p t.kids.length t.cap) := by simp [World.cell?, hec.hT, TCells]
  have k0 : U2.cell? ⟨w.heap.size + 1, 0, none⟩ = some (.bool c.b0) := by simp [World.cell?, hec.hC]
  have k1 : U2.cell? ⟨w.heap.size + 1, 1, none⟩ = some (.bool c.b1) := by simp [World.cell?, hec.hC]
  have k2 : U2.cell? ⟨w.heap.size + 1, 2, none⟩ = some (.bool c.b2) := by simp [World.cell?, hec.hC]
  have k3 : U2.cell? ⟨w.heap.size + 1, 3, none⟩ = some (.bool c.b3) := by simp [World.cell?, hec.hC]
  have k4 : U2.cell? ⟨w.heap.size + 1, 4, none⟩ = some (.bool c.b4) := by simp [World.cell?, hec.hC]
  have k5 : U2.cell? ⟨w.heap.size + 1, 5, none⟩ = some (.bool c.b5) := by simp [World.cell?, hec.hC]
  have k6 : U2.cell? ⟨w.heap.size + 1, 6, none⟩ = some (.bool c.b6) := by simp [World.cell?, hec.hC]
  have k7 : U2.cell? ⟨w.heap.size + 1, 7, none⟩ = some (.slice c.p c.hs.length c.cap) := by simp [World.cell?, hec.hC]
  have e0 := (box_cell hec.hE).1
  obtain ⟨r3, f3⟩ := box_cell hec.hI
  obtain ⟨r4, f4⟩ := box_cell hec.hB
  obtain ⟨r5, f5⟩ := box_cell hec.hR
  have l5 : w.heap.size + 5 < U2.heap.size := (Array.getElem?_eq_some_iff.1 hec.hR).1
  have l0 : w.heap.size < U2.heap.size := by omega
  have l1 : w.heap.size + 1 < U2.heap.size := by omega
  have l2 : w.heap.size + 2 < U2.heap.size := by omega
  have l3 : w.heap.size + 3 < U2.heap.size := by omega
  have l4 : w.heap.size + 4 < U2.heap.size := by omega
  have m0 : w.heap.size < U2.heap.size + 1 := by omega
  have m1 : w.heap.size + 1 < U2.heap.size + 1 := by omega
  have m2 : w.heap.size + 2 < U2.heap.size + 1 := by omega
  have m3 : w.heap.size + 3 < U2.heap.size + 1 := by omega
  have m4 : w.heap.size + 4 < U2.heap.size + 1 := by omega
  have m5 : w.heap.size + 5 < U2.heap.size + 1 := by omega
  go_wp2_with fail
  refine bodyPost_ret (v := .tuple #[.int .i64 0, .bool false, .int .i64 1]) (by simp [results, Tryd.f12, go_sem, r3, r4, r5]) rfl ⟨rfl, ?_⟩
  have q := hbU2
  repeat (first | exact q | refine Below.setCell ?_ (by first | (simp; done) | (simp; omega)) _)
set_option maxRecDepth 100000 in
set_option maxHeartbeats 1600000 in
open Classical in
theorem eval_events (n₀ : Nat) (t : Dl.T) (c : Cal) (q : Option Addr) (capq : Nat) (l : List Wh) (w : World) (ht : TIn n₀ w t) (hn : n₀ ≤ w.heap.size) (hc : CalIn w c) (hl : EvAt w q l) (hl1 : l.length ≤ 1000) (hv : decide (CalOK c) = true) (hvt : validT t l.length = true) (hg : goodE l = false) :
    Calls Tryd.prog 12 #[TV t, .agg #[.bool c.b0, .bool c.b1, .bool c.b2, .bool c.b3, .bool c.b4, .bool c.b5, .bool c.b6, .slice c.p c.hs.length c.cap], .slice q l.length capq] w fun e w' => e = .returned (.tuple #[.int .i64 0, .bool false, .int .i64 1]) ∧ Below w.heap.size w w' := by
  have HT := Lib.hid ht
  have HC := Lib.hid hc
  have HL := Lib.hid hl
  clear ht hc hl
  have HV := Lib.hid hv
  clear hv
  have HVT := Lib.hid hvt
  clear hvt
  have HG := Lib.hid hg
  clear hg
  unfold TV
  go_enter Tryd.func12, Tryd.ntmps12
  go_wp2_with fail
  obtain ⟨U, hU⟩ : ∃ U, U = (((((w.alloc (.cells #[.int .i64 t.kd, .int .i64 t.n, .int .i64 t.ev, .bool t.bz, .slice t.p t.kids.length t.cap] 24)).alloc (.cells #[.bool c.b0, .bool c.b1, .bool c.b2, .bool c.b3, .bool c.b4, .bool c.b5, .bool c.b6, .slice c.p c.hs.length c.cap] 28)).alloc (.cells #[.slice q l.length capq] 29)).alloc (.cells #[.int .i64 0] 3)).alloc (.cells #[.bool false] 4)).alloc (.cells #[.int .i64 0] 33) := ⟨_, rfl⟩
  obtain ⟨hec, hbU⟩ := ec_start w t c q l.length capq U hU
  rw [← hU]
  clear hU
  refine (calvalid_any c U (HC.out.below hbU)).mono ?_
  rintro e U1 ⟨rfl, hb⟩
  rw [HV.out]
  have hbU1 : Below w.heap.size w U1 := hbU.trans (hb.mono hbU.size)
  have hec := hec.below hb
  clear hb
  have q0 : U1.cell? ⟨w.heap.size, 0, none⟩ = some (.int .i64 t.kd) := by simp [World.cell?, hec.hT, TCells]
  have q1 : U1.cell? ⟨w.heap.size, 1, none⟩ = some (.int .i64 t.n) := by simp [World.cell?, hec.hT, TCells]
  have q2 : U1.cell? ⟨w.heap.size, 2, none⟩ = some (.int .i64 t.ev) := by simp [World.cell?, hec.hT, TCells]
  have q3 : U1.cell? ⟨w.heap.size, 3, none⟩ = some (.bool t.bz) := by simp [World.cell?, hec.hT, TCells]
  have q4 : U1.cell? ⟨w.heap.size, 4, none⟩ = some (.slice t.p t.kids.length t.cap) := by simp [World.cell?, hec.hT, TCells]
  have k0 : U1.cell? ⟨w.heap.size + 1, 0, none⟩ = some (.bool c.b0) := by simp [World.cell?, hec.hC]
  have k1 : U1.cell? ⟨w.heap.size + 1, 1, none⟩ = some (.bool c.b1) := by simp [World.cell?, hec.hC]
  have k2 : U1.cell? ⟨w.heap.size + 1, 2, none⟩ = some (.bool c.b2) := by simp [World.cell?, hec.hC]
  have k3 : U1.cell? ⟨w.heap.size + 1, 3, none⟩ = some (.bool c.b3) := by simp [World.cell?, hec.hC]
  have k4 : U1.cell? ⟨w.heap.size + 1, 4, none⟩ = some (.bool c.b4) := by simp [World.cell?, hec.hC]
  have k5 : U1.cell? ⟨w.heap.size + 1, 5, none⟩ = some (.bool c.b5) := by simp [World.cell?, hec.hC]
  have k6 : U1.cell? ⟨w.heap.size + 1, 6, none⟩ = some (.bool c.b6) := by simp [World.cell?, hec.hC]
  have k7 : U1.cell? ⟨w.heap.size + 1, 7, none⟩ = some (.slice c.p c.hs.length c.cap) := by simp [World.cell?, hec.hC]
  have e0 := (box_cell hec.hE).1
  obtain ⟨r3, f3⟩ := box_cell hec.hI
  obtain ⟨r4, f4⟩ := box_cell hec.hB
  obtain ⟨r5, f5⟩ := box_cell hec.hR
  have l5 : w.heap.size + 5 < U1.heap.size := (Array.getElem?_eq_some_iff.1 hec.hR).1
  have l0 : w.heap.size < U1.heap.size := by omega
  have l1 : w.heap.size + 1 < U1.heap.size := by omega
  have l2 : w.heap.size + 2 < U1.heap.size := by omega
  have l3 : w.heap.size + 3 < U1.heap.size := by omega
  have l4 : w.heap.size + 4 < U1.heap.size := by omega
  have m0 : w.heap.size < U1.heap.size + 1 := by omega
  have m1 : w.heap.size + 1 < U1.heap.size + 1 := by omega
  have m2 : w.heap.size + 2 < U1.heap.size + 1 := by omega
  have m3 : w.heap.size + 3 < U1.heap.size + 1 := by omega
  have m4 : w.heap.size + 4 < U1.heap.size + 1 := by omega
  have m5 : w.heap.size + 5 < U1.heap.size + 1 := by omega
  go_wp2_with fail
  refine ((show Calls Tryd.prog 17 #[.agg #[.int .i64 t.kd, .int .i64 t.n, .int .i64 t.ev, .bool t.bz, .slice t.p t.kids.length t.cap], .int .i64 (l.length : Nat)] U1 _ from valid_any n₀ t (l.length : Nat) U1 (TIn.below (hbU1.mono hn) t HT.out) (Nat.le_trans hn hbU1.size))).mono ?_
  rintro e U2 ⟨rfl, hb⟩
  rw [HVT.out]
  have hbU2 : Below w.heap.size w U2 := hbU1.trans (hb.mono hbU1.size)
  have hec := hec.below hb
  clear hb q0 q1 q2 q3 q4 k0 k1 k2 k3 k4 k5 k6 k7 e0 r3 f3 r4 f4 r5 f5 l0 l1 l2 l3 l4 l5 m0 m1 m2 m3 m4 m5
  have q0 : U2.cell? ⟨w.heap.size, 0, none⟩ = some (.int .i64 t.kd) := by simp [World.cell?, hec.hT, TCells]
  have q1 : U2.cell? ⟨w.heap.size, 1, none⟩ = some (.int .i64 t.n) := by simp [World.cell?, hec.hT, TCells]
  have q2 : U2.cell? ⟨w.heap.size, 2, none⟩ = some (.int .i64 t.ev) := by simp [World.cell?, hec.hT, TCells]
  have q3 : U2.cell? ⟨w.heap.size, 3, none⟩ = some (.bool t.bz) := by simp [World.cell?, hec.hT, TCells]
  have q4 : U2.cell? ⟨w.heap.size, 4, none⟩ = some (.slice t.p t.kids.length t.cap) := by simp [World.cell?, hec.hT, TCells]
  have k0 : U2.cell? ⟨w.heap.size + 1, 0, none⟩ = some (.bool c.b0) := by simp [World.cell?, hec.hC]
  have k1 : U2.cell? ⟨w.heap.size + 1, 1, none⟩ = some (.bool c.b1) := by simp [World.cell?, hec.hC]
  have k2 : U2.cell? ⟨w.heap.size + 1, 2, none⟩ = some (.bool c.b2) := by simp [World.cell?, hec.hC]
  have k3 : U2.cell? ⟨w.heap.size + 1, 3, none⟩ = some (.bool c.b3) := by simp [World.cell?, hec.hC]
  have k4 : U2.cell? ⟨w.heap.size + 1, 4, none⟩ = some (.bool c.b4) := by simp [World.cell?, hec.hC]
  have k5 : U2.cell? ⟨w.heap.size + 1, 5, none⟩ = some (.bool c.b5) := by simp [World.cell?, hec.hC]
  have k6 : U2.cell? ⟨w.heap.size + 1, 6, none⟩ = some (.bool c.b6) := by simp [World.cell?, hec.hC]
  have k7 : U2.cell? ⟨w.heap.size + 1, 7, none⟩ = some (.slice c.p c.hs.length c.cap) := by simp [World.cell?, hec.hC]
  have e0 := (box_cell hec.hE).1
  obtain ⟨r3, f3⟩ := box_cell hec.hI
  obtain ⟨r4, f4⟩ := box_cell hec.hB
  obtain ⟨r5, f5⟩ := box_cell hec.hR
  have l5 : w.heap.size + 5 < U2.heap.size := (Array.getElem?_eq_some_iff.1 hec.hR).1
  have l0 : w.heap.size < U2.heap.size := by omega
  have l1 : w.heap.size + 1 < U2.heap.size := by omega
  have l2 : w.heap.size + 2 < U2.heap.size := by omega
  have l3 : w.heap.size + 3 < U2.heap.size := by omega
  have l4 : w.heap.size + 4 < U2.heap.size := by omega
  have m0 : w.heap.size < U2.heap.size + 1 := by omega
  have m1 : w.heap.size + 1 < U2.heap.size + 1 := by omega
  have m2 : w.heap.size + 2 < U2.heap.size + 1 := by omega
  have m3 : w.heap.size + 3 < U2.heap.size + 1 := by omega
  have m4 : w.heap.size + 4 < U2.heap.size + 1 := by omega
  have m5 : w.heap.size + 5 < U2.heap.size + 1 := by omega
  go_wp2_with fail
  refine (areValid_calls q capq l U2 hl1 (HL.out.below hbU2)).mono ?_
  rintro e U3 ⟨rfl, hb⟩
  rw [HG.out]
  have hbU3 : Below w.heap.size w U3 := hbU2.trans (hb.mono hbU2.size)
  have hec := hec.below hb
  clear hb q0 q1 q2 q3 q4 k0 k1 k2 k3 k4 k5 k6 k7 e0 r3 f3 r4 f4 r5 f5 l0 l1 l2 l3 l4 l5 m0 m1 m2 m3 m4 m5
  have q0 : U3.cell? ⟨w.heap.size, 0, none⟩ = some (.int .i64 t.kd) := by simp [World.cell?, hec.hT, TCells]
  have q1 : U3.cell? ⟨w.heap.size, 1, none⟩ = some (.int .i64 t.n) := by simp [World.cell?, hec.hT, TCells]
  have q2 : U3.cell? ⟨w.heap.size, 2, none⟩ = some (.int .i64 t.ev) := by simp [World.cell?, hec.hT, TCells]
  have q3 : U3.cell? ⟨w.heap.size, 3, none⟩ = some (.bool t.bz) := by simp [World.cell?, hec.hT, TCells]
  have q4 : U3.cell? ⟨w.heap.size, 4, none⟩ = some (.slice t.p t.kids.length t.cap) := by simp [World.cell?, hec.hT, TCells]
  have k0 : U3.cell? ⟨w.heap.size + 1, 0, none⟩ = some (.bool c.b0) := by simp [World.cell?, hec.hC]
  have k1 : U3.cell? ⟨w.heap.size + 1, 1, none⟩ = some (.bool c.b1) := by simp [World.cell?, hec.hC]
  have k2 : U3.cell? ⟨w.heap.size + 1, 2, none⟩ = some (.bool c.b2) := by simp [World.cell?, hec.hC]
  have k3 : U3.cell? ⟨w.heap.size + 1, 3, none⟩ = some (.bool c.b3) := by simp [World.cell?, hec.hC]
  have k4 : U3.cell? ⟨w.heap.size + 1, 4, none⟩ = some (.bool c.b4) := by simp [World.cell?, hec.hC]
  have k5 : U3.cell? ⟨w.heap.size + 1, 5, none⟩ = some (.bool c.b5) := by simp [World.cell?, hec.hC]
  have k6 : U3.cell? ⟨w.heap.size + 1, 6, none⟩ = some (.bool c.b6) := by simp [World.cell?, hec.hC]
  have k7 : U3.cell? ⟨w.heap.size + 1, 7, none⟩ = some (.slice c.p c.hs.length c.cap) := by simp [World.cell?, hec.hC]
  have e0 := (box_cell hec.hE).1
  obtain ⟨r3, f3⟩ := box_cell hec.hI
  obtain ⟨r4, f4⟩ := box_cell hec.hB
  obtain ⟨r5, f5⟩ := box_cell hec.hR
  have l5 : w.heap.size + 5 < U3.heap.size := (Array.getElem?_eq_some_iff.1 hec.hR).1
  have l0 : w.heap.size < U3.heap.size := by omega
  have l1 : w.heap.size + 1 < U3.heap.size := by omega
  have l2 : w.heap.size + 2 < U3.heap.size := by omega
  have l3 : w.heap.size + 3 < U3.heap.size := by omega
  have l4 : w.heap.size + 4 < U3.heap.size := by omega
  have m0 : w.heap.size < U3.heap.size + 1 := by omega
  have m1 : w.heap.size + 1 < U3.heap.size + 1 := by omega
  have m2 : w.heap.size + 2 < U3.heap.size + 1 := by omega
  have m3 : w.heap.size + 3 < U3.heap.size + 1 := by omega
  have m4 : w.heap.size + 4 < U3.heap.size + 1 := by omega
  have m5 : w.heap.size + 5 < U3.heap.size + 1 := by omega
  go_wp2_with fail
  refine bodyPost_ret (v := .tuple #[.int .i64 0, .bool false, .int .i64 1]) (by simp [results, Tryd.f12, go_sem, r3, r4, r5]) rfl ⟨rfl, ?_⟩
  have q := hbU3
  repeat (first | exact q | refine Below.setCell ?_ (by first | (simp; done) | (simp; omega)) _)
end Go.Proofs.YtlbfnafniobnaaaDoor

/- Eval of a valid term whose events are known. -/
import Derived.Test.YtlbfnafniobnaaaDoorDlP
import Derived.Test.YtlbfnafniobnaaaDoorDlS
import Derived.Stop.RegionWithIn
namespace Go.Proofs.YtlbfnafniobnaaaDoor
open Go.RowKit Go.Shelf
attribute [local go_sem] Oper.semAt_some

/-- what Eval answers behind the run -/
def evR (x : List Int × Int) : Value := if x.2 = 0 then .tuple #[.int .i64 (x.1.headD 0), .bool true, .int .i64 0] else .tuple #[.int .i64 0, .bool false, .int .i64 x.2]
/-- what holds between two rounds -/
inductive DI (c : Cal) (l : List Wh) (t : Dl.T) (b base : Nat) (V : World) (pre : List ((Dl.T × Nat) × Nat)) (O : Nat → Prop) (W : World) : Prop
  | mk (v : Value) (ds : List Int) : O = (fun j => j = b ∨ v.ownBlock = some j) → Boxed W b 26 v → W.ownsRow base 3 1 v ds.length (ds.map (Value.int .i64)) → ds.length ≤ pre.length → pre.length ≤ 40 → (∀ d ∈ ds, 0 ≤ d ∧ d ≤ 73048) →
      runS c l (pre.map (·.1.1)) [] = (ds, 0) → enough (((bwd (Dl.nds t 1)).drop pre.length).map (·.1.1)) ds.length = true → (pre ≠ [] → ds ≠ []) → Same (fun j => j < V.heap.size ∧ j ≠ b) V W → DI c l t b base V pre O W
/-- what holds where the loop is left -/
inductive DX (c : Cal) (l : List Wh) (t : Dl.T) (w W : World) : Prop
  | mk (er : Int) : (runS c l (rev t) []).2 = er → er ≠ 0 → W.heap[w.heap.size + 3]? = some (.cells #[.int .i64 0] 3 (0, 0)) → W.heap[w.heap.size + 4]? = some (.cells #[.bool false] 4 (0, 0)) → W.heap[w.heap.size + 5]? = some (.cells #[.int .i64 er] 33 (0, 0)) → Below w.heap.size w W → DX c l t w W
theorem own_len (pv : Option Addr) (m n cap : Nat) : (Value.slice pv m cap).ownBlock = (Value.slice pv n cap).ownBlock := by cases pv <;> rfl
theorem own_at {pv : Option Addr} {m n cap g k cap' s : Nat} (h : (Value.slice (some ⟨g, 0, none⟩) k cap').ownBlock = (Value.slice pv m cap).ownBlock ∨ (Value.slice (some ⟨g, 0, none⟩) k cap').ownBlock = some s) :
    some g = (Value.slice pv n cap).ownBlock ∨ g = s := by
  rcases h with h | h
  · exact .inl (h.trans (own_len pv m n cap))
  · exact .inr (Option.some.inj h)
theorem own_take {W : World} {base n m cap : Nat} {e : TypeId} {pv : Option Addr} {xs : List Value} (h : W.ownsRow base e 1 (.slice pv n cap) n xs) (hm : m ≤ n) : W.ownsRow base e 1 (.slice pv m cap) m (xs.take m) := by
  obtain ⟨hx, h⟩ := h
  refine ⟨by rw [List.length_take]; omega, ?_⟩
  rcases h with ⟨hv, rfl⟩ | ⟨g, c', cur, hv, hb, hg, h1, h2, h3, h4⟩
  · simp only [Value.slice.injEq] at hv
    obtain ⟨rfl, _, rfl⟩ := hv
    obtain rfl : m = 0 := by omega
    exact .inl ⟨rfl, rfl⟩
  · simp only [Value.slice.injEq, true_and] at hv
    obtain ⟨rfl, rfl⟩ := hv
    refine .inr ⟨g, _, cur, rfl, hb, hg, by omega, h2, h3, ?_⟩
    rw [← h4, List.take_take]
    congr 1
    omega
theorem bwd_rev (t : Dl.T) : (bwd (Dl.nds t 1)).map (·.1.1) = rev t := by
  unfold bwd rev
  rw [List.map_reverse]
  congr 1
  have : ((Dl.nds t 1).zipIdx.map (·.1)).map (·.1) = (Dl.nds t 1).map (·.1) := by simp
  rw [← this, List.map_map]
  rfl
set_option maxRecDepth 100000 in
set_option maxHeartbeats 3200000 in
open Classical in
theorem eval_in (n₀ : Nat) (t : Dl.T) (c : Cal) (q : Option Addr) (capq : Nat) (l : List Wh) (w : World) (ht : TIn n₀ w t) (hn : n₀ ≤ w.heap.size) (hc : CalIn w c) (hl : EvAt w q l) (hv : decide (CalOK c) = true) (hvt : validT t l.length = true) (hg : goodE l = true) (hkn : ((evT t).any fun i => !(knownAt l i)) = false) (hE : Env w) :
    Calls Tryd.prog 12 #[TV t, .agg #[.bool c.b0, .bool c.b1, .bool c.b2, .bool c.b3, .bool c.b4, .bool c.b5, .bool c.b6, .slice c.p c.hs.length c.cap], .slice q l.length capq] w (fun e w' => e = .returned (evR (runS c l (rev t) [])) ∧ Below w.heap.size w w') := by
  have HT := Lib.hid ht
  have HC := Lib.hid hc
  have HL := Lib.hid hl
  clear ht hc hl
  have HV := Lib.hid hv
  clear hv
  obtain ⟨hl1, hv1, hnl, hok⟩ := valid_facts hvt
  have HV1 := Lib.hid hv1
  have HRG := Lib.hid (show ∀ i ∈ evT t, 0 ≤ i ∧ i < l.length from fun i hi => by
    obtain ⟨x, hx, h1, rfl⟩ := evT_in hi
    exact ev_range (hok x hx) h1)
  have hel : (evT t).length ≤ 1000 := by have := evT_len t; omega
  have HOK := Lib.hid hok
  clear hv1 hok
  have HVT := Lib.hid hvt
  clear hvt
  have HG := Lib.hid hg
  clear hg
  have HKN := Lib.hid hkn
  clear hkn
  have HE := Lib.hid hE
  clear hE
  unfold TV
  refine (callsIn_wide (n := 3)).1 ?_
  refine callsIn_of_wp_marks Tryd.func12 rfl trivial ?_ rfl
  simp only [Tryd.ntmps12, List.size_toArray, List.length_cons, List.length_nil, Nat.reduceAdd, Nat.reduceSub, Array.replicate_succ, Array.replicate_zero, List.push_toArray, List.append_toArray, List.nil_append, List.cons_append]
  gi_wp2
  refine ⟨trivial, ?_⟩
  obtain ⟨U, hU⟩ : ∃ U, U = (((((w.alloc (.cells #[.int .i64 t.kd, .int .i64 t.n, .int .i64 t.ev, .bool t.bz, .slice t.p t.kids.length t.cap] 24)).alloc (.cells #[.bool c.b0, .bool c.b1, .bool c.b2, .bool c.b3, .bool c.b4, .bool c.b5, .bool c.b6, .slice c.p c.hs.length c.cap] 28)).alloc (.cells #[.slice q l.length capq] 29)).alloc (.cells #[.int .i64 0] 3)).alloc (.cells #[.bool false] 4)).alloc (.cells #[.int .i64 0] 33) := ⟨_, rfl⟩
  obtain ⟨hec, hbU⟩ := ec_start w t c q l.length capq U hU
  rw [← hU]
  clear hU
  refine (callsIn_wide.2 (calvalid_any c U (HC.out.below hbU))).mono ?_
  rintro e U1 ⟨rfl, hb⟩
  rw [HV.out]
  have hbU1 : Below w.heap.size w U1 := hbU.trans (hb.mono hbU.size)
  have hec := hec.below hb
  clear hb
  have q0 : U1.cell? ⟨w.heap.size, 0, none⟩ = some (.int .i64 t.kd) := by simp [World.cell?, hec.hT, TCells]
  have q1 : U1.cell? ⟨w.heap.size, 1, none⟩ = some (.int .i64 t.n) := by simp [World.cell?, hec.hT, TCells]
  have q2 : U1.cell? ⟨w.heap.size, 2, none⟩ = some (.int .i64 t.ev) := by simp [World.cell?, hec.hT, TCells]
  have q3 : U1.cell? ⟨w.heap.size, 3, none⟩ = some (.bool t.bz) := by simp [World.cell?, hec.hT, TCells]
  have q4 : U1.cell? ⟨w.heap.size, 4, none⟩ = some (.slice t.p t.kids.length t.cap) := by simp [World.cell?, hec.hT, TCells]
  have k0 : U1.cell? ⟨w.heap.size + 1, 0, none⟩ = some (.bool c.b0) := by simp [World.cell?, hec.hC]
  have k1 : U1.cell? ⟨w.heap.size + 1, 1, none⟩ = some (.bool c.b1) := by simp [World.cell?, hec.hC]
  have k2 : U1.cell? ⟨w.heap.size + 1, 2, none⟩ = some (.bool c.b2) := by simp [World.cell?, hec.hC]
  have k3 : U1.cell? ⟨w.heap.size + 1, 3, none⟩ = some (.bool c.b3) := by simp [World.cell?, hec.hC]
  have k4 : U1.cell? ⟨w.heap.size + 1, 4, none⟩ = some (.bool c.b4) := by simp [World.cell?, hec.hC]
  have k5 : U1.cell? ⟨w.heap.size + 1, 5, none⟩ = some (.bool c.b5) := by simp [World.cell?, hec.hC]
  have k6 : U1.cell? ⟨w.heap.size + 1, 6, none⟩ = some (.bool c.b6) := by simp [World.cell?, hec.hC]
  have k7 : U1.cell? ⟨w.heap.size + 1, 7, none⟩ = some (.slice c.p c.hs.length c.cap) := by simp [World.cell?, hec.hC]
  have e0 := (box_cell hec.hE).1
  obtain ⟨r3, f3⟩ := box_cell hec.hI
  obtain ⟨r4, f4⟩ := box_cell hec.hB
  obtain ⟨r5, f5⟩ := box_cell hec.hR
  have l5 : w.heap.size + 5 < U1.heap.size := (Array.getElem?_eq_some_iff.1 hec.hR).1
  have l0 : w.heap.size < U1.heap.size := by omega
  have l1 : w.heap.size + 1 < U1.heap.size := by omega
  have l2 : w.heap.size + 2 < U1.heap.size := by omega
  have l3 : w.heap.size + 3 < U1.heap.size := by omega
  have l4 : w.heap.size + 4 < U1.heap.size := by omega
  have m0 : w.heap.size < U1.heap.size + 1 := by omega
  have m1 : w.heap.size + 1 < U1.heap.size + 1 := by omega
  have m2 : w.heap.size + 2 < U1.heap.size + 1 := by omega
  have m3 : w.heap.size + 3 < U1.heap.size + 1 := by omega
  have m4 : w.heap.size + 4 < U1.heap.size + 1 := by omega
  have m5 : w.heap.size + 5 < U1.heap.size + 1 := by omega
  gi_wp2
  refine ⟨trivial, ?_⟩
  refine (callsIn_wide.2 ((show Calls Tryd.prog 17 #[.agg #[.int .i64 t.kd, .int .i64 t.n, .int .i64 t.ev, .bool t.bz, .slice t.p t.kids.length t.cap], .int .i64 (l.length : Nat)] U1 _ from valid_any n₀ t (l.length : Nat) U1 (TIn.below (hbU1.mono hn) t HT.out) (Nat.le_trans hn hbU1.size)))).mono ?_
  rintro e U2 ⟨rfl, hb⟩
  rw [HVT.out]
  have hbU2 : Below w.heap.size w U2 := hbU1.trans (hb.mono hbU1.size)
  have hec := hec.below hb
  clear hb q0 q1 q2 q3 q4 k0 k1 k2 k3 k4 k5 k6 k7 e0 r3 f3 r4 f4 r5 f5 l0 l1 l2 l3 l4 l5 m0 m1 m2 m3 m4 m5
  have q0 : U2.cell? ⟨w.heap.size, 0, none⟩ = some (.int .i64 t.kd) := by simp [World.cell?, hec.hT, TCells]
  have q1 : U2.cell? ⟨w.heap.size, 1, none⟩ = some (.int .i64 t.n) := by simp [World.cell?, hec.hT, TCells]
  have q2 : U2.cell? ⟨w.heap.size, 2, none⟩ = some (.int .i64 t.ev) := by simp [World.cell?, hec.hT, TCells]
  have q3 : U2.cell? ⟨w.heap.size, 3, none⟩ = some (.bool t.bz) := by simp [World.cell?, hec.hT, TCells]
  have q4 : U2.cell? ⟨w.heap.size, 4, none⟩ = some (.slice t.p t.kids.length t.cap) := by simp [World.cell?, hec.hT, TCells]
  have k0 : U2.cell? ⟨w.heap.size + 1, 0, none⟩ = some (.bool c.b0) := by simp [World.cell?, hec.hC]
  have k1 : U2.cell? ⟨w.heap.size + 1, 1, none⟩ = some (.bool c.b1) := by simp [World.cell?, hec.hC]
  have k2 : U2.cell? ⟨w.heap.size + 1, 2, none⟩ = some (.bool c.b2) := by simp [World.cell?, hec.hC]
  have k3 : U2.cell? ⟨w.heap.size + 1, 3, none⟩ = some (.bool c.b3) := by simp [World.cell?, hec.hC]
  have k4 : U2.cell? ⟨w.heap.size + 1, 4, none⟩ = some (.bool c.b4) := by simp [World.cell?, hec.hC]
  have k5 : U2.cell? ⟨w.heap.size + 1, 5, none⟩ = some (.bool c.b5) := by simp [World.cell?, hec.hC]
  have k6 : U2.cell? ⟨w.heap.size + 1, 6, none⟩ = some (.bool c.b6) := by simp [World.cell?, hec.hC]
  have k7 : U2.cell? ⟨w.heap.size + 1, 7, none⟩ = some (.slice c.p c.hs.length c.cap) := by simp [World.cell?, hec.hC]
  have e0 := (box_cell hec.hE).1
  obtain ⟨r3, f3⟩ := box_cell hec.hI
  obtain ⟨r4, f4⟩ := box_cell hec.hB
  obtain ⟨r5, f5⟩ := box_cell hec.hR
  have l5 : w.heap.size + 5 < U2.heap.size := (Array.getElem?_eq_some_iff.1 hec.hR).1
  have l0 : w.heap.size < U2.heap.size := by omega
  have l1 : w.heap.size + 1 < U2.heap.size := by omega
  have l2 : w.heap.size + 2 < U2.heap.size := by omega
  have l3 : w.heap.size + 3 < U2.heap.size := by omega
  have l4 : w.heap.size + 4 < U2.heap.size := by omega
  have m0 : w.heap.size < U2.heap.size + 1 := by omega
  have m1 : w.heap.size + 1 < U2.heap.size + 1 := by omega
  have m2 : w.heap.size + 2 < U2.heap.size + 1 := by omega
  have m3 : w.heap.size + 3 < U2.heap.size + 1 := by omega
  have m4 : w.heap.size + 4 < U2.heap.size + 1 := by omega
  have m5 : w.heap.size + 5 < U2.heap.size + 1 := by omega
  gi_wp2
  refine ⟨trivial, ?_⟩
  refine (callsIn_wide.2 (areValid_calls q capq l U2 hl1 (HL.out.below hbU2))).mono ?_
  rintro e U3 ⟨rfl, hb⟩
  rw [HG.out]
  have hbU3 : Below w.heap.size w U3 := hbU2.trans (hb.mono hbU2.size)
  have hec := hec.below hb
  clear hb q0 q1 q2 q3 q4 k0 k1 k2 k3 k4 k5 k6 k7 e0 r3 f3 r4 f4 r5 f5 l0 l1 l2 l3 l4 l5 m0 m1 m2 m3 m4 m5
  have q0 : U3.cell? ⟨w.heap.size, 0, none⟩ = some (.int .i64 t.kd) := by simp [World.cell?, hec.hT, TCells]
  have q1 : U3.cell? ⟨w.heap.size, 1, none⟩ = some (.int .i64 t.n) := by simp [World.cell?, hec.hT, TCells]
  have q2 : U3.cell? ⟨w.heap.size, 2, none⟩ = some (.int .i64 t.ev) := by simp [World.cell?, hec.hT, TCells]
  have q3 : U3.cell? ⟨w.heap.size, 3, none⟩ = some (.bool t.bz) := by simp [World.cell?, hec.hT, TCells]
  have q4 : U3.cell? ⟨w.heap.size, 4, none⟩ = some (.slice t.p t.kids.length t.cap) := by simp [World.cell?, hec.hT, TCells]
  have k0 : U3.cell? ⟨w.heap.size + 1, 0, none⟩ = some (.bool c.b0) := by simp [World.cell?, hec.hC]
  have k1 : U3.cell? ⟨w.heap.size + 1, 1, none⟩ = some (.bool c.b1) := by simp [World.cell?, hec.hC]
  have k2 : U3.cell? ⟨w.heap.size + 1, 2, none⟩ = some (.bool c.b2) := by simp [World.cell?, hec.hC]
  have k3 : U3.cell? ⟨w.heap.size + 1, 3, none⟩ = some (.bool c.b3) := by simp [World.cell?, hec.hC]
  have k4 : U3.cell? ⟨w.heap.size + 1, 4, none⟩ = some (.bool c.b4) := by simp [World.cell?, hec.hC]
  have k5 : U3.cell? ⟨w.heap.size + 1, 5, none⟩ = some (.bool c.b5) := by simp [World.cell?, hec.hC]
  have k6 : U3.cell? ⟨w.heap.size + 1, 6, none⟩ = some (.bool c.b6) := by simp [World.cell?, hec.hC]
  have k7 : U3.cell? ⟨w.heap.size + 1, 7, none⟩ = some (.slice c.p c.hs.length c.cap) := by simp [World.cell?, hec.hC]
  have e0 := (box_cell hec.hE).1
  obtain ⟨r3, f3⟩ := box_cell hec.hI
  obtain ⟨r4, f4⟩ := box_cell hec.hB
  obtain ⟨r5, f5⟩ := box_cell hec.hR
  have l5 : w.heap.size + 5 < U3.heap.size := (Array.getElem?_eq_some_iff.1 hec.hR).1
  have l0 : w.heap.size < U3.heap.size := by omega
  have l1 : w.heap.size + 1 < U3.heap.size := by omega
  have l2 : w.heap.size + 2 < U3.heap.size := by omega
  have l3 : w.heap.size + 3 < U3.heap.size := by omega
  have l4 : w.heap.size + 4 < U3.heap.size := by omega
  have m0 : w.heap.size < U3.heap.size + 1 := by omega
  have m1 : w.heap.size + 1 < U3.heap.size + 1 := by omega
  have m2 : w.heap.size + 2 < U3.heap.size + 1 := by omega
  have m3 : w.heap.size + 3 < U3.heap.size + 1 := by omega
  have m4 : w.heap.size + 4 < U3.heap.size + 1 := by omega
  have m5 : w.heap.size + 5 < U3.heap.size + 1 := by omega
  gi_wp2
  refine ⟨trivial, ?_⟩
  refine (callsIn_wide.2 (events_any n₀ t U3 (TIn.below (hbU3.mono hn) t HT.out) (Nat.le_trans hn hbU3.size) HV1.out)).mono ?_
  rintro e U4 ⟨pe, capE, rfl, hol, hb⟩
  have hbU4 : Below w.heap.size w U4 := hbU3.trans (hb.mono hbU3.size)
  have hec := hec.below hb
  have HOL := Lib.hid hol
  clear hb hol q0 q1 q2 q3 q4 k0 k1 k2 k3 k4 k5 k6 k7 e0 r3 f3 r4 f4 r5 f5 l0 l1 l2 l3 l4 l5 m0 m1 m2 m3 m4 m5
  have q0 : U4.cell? ⟨w.heap.size, 0, none⟩ = some (.int .i64 t.kd) := by simp [World.cell?, hec.hT, TCells]
  have q1 : U4.cell? ⟨w.heap.size, 1, none⟩ = some (.int .i64 t.n) := by simp [World.cell?, hec.hT, TCells]
  have q2 : U4.cell? ⟨w.heap.size, 2, none⟩ = some (.int .i64 t.ev) := by simp [World.cell?, hec.hT, TCells]
  have q3 : U4.cell? ⟨w.heap.size, 3, none⟩ = some (.bool t.bz) := by simp [World.cell?, hec.hT, TCells]
  have q4 : U4.cell? ⟨w.heap.size, 4, none⟩ = some (.slice t.p t.kids.length t.cap) := by simp [World.cell?, hec.hT, TCells]
  have k0 : U4.cell? ⟨w.heap.size + 1, 0, none⟩ = some (.bool c.b0) := by simp [World.cell?, hec.hC]
  have k1 : U4.cell? ⟨w.heap.size + 1, 1, none⟩ = some (.bool c.b1) := by simp [World.cell?, hec.hC]
  have k2 : U4.cell? ⟨w.heap.size + 1, 2, none⟩ = some (.bool c.b2) := by simp [World.cell?, hec.hC]
  have k3 : U4.cell? ⟨w.heap.size + 1, 3, none⟩ = some (.bool c.b3) := by simp [World.cell?, hec.hC]
  have k4 : U4.cell? ⟨w.heap.size + 1, 4, none⟩ = some (.bool c.b4) := by simp [World.cell?, hec.hC]
  have k5 : U4.cell? ⟨w.heap.size + 1, 5, none⟩ = some (.bool c.b5) := by simp [World.cell?, hec.hC]
  have k6 : U4.cell? ⟨w.heap.size + 1, 6, none⟩ = some (.bool c.b6) := by simp [World.cell?, hec.hC]
  have k7 : U4.cell? ⟨w.heap.size + 1, 7, none⟩ = some (.slice c.p c.hs.length c.cap) := by simp [World.cell?, hec.hC]
  have e0 := (box_cell hec.hE).1
  obtain ⟨r3, f3⟩ := box_cell hec.hI
  obtain ⟨r4, f4⟩ := box_cell hec.hB
  obtain ⟨r5, f5⟩ := box_cell hec.hR
  have l5 : w.heap.size + 5 < U4.heap.size := (Array.getElem?_eq_some_iff.1 hec.hR).1
  have l0 : w.heap.size < U4.heap.size := by omega
  have l1 : w.heap.size + 1 < U4.heap.size := by omega
  have l2 : w.heap.size + 2 < U4.heap.size := by omega
  have l3 : w.heap.size + 3 < U4.heap.size := by omega
  have l4 : w.heap.size + 4 < U4.heap.size := by omega
  have m0 : w.heap.size < U4.heap.size + 1 := by omega
  have m1 : w.heap.size + 1 < U4.heap.size + 1 := by omega
  have m2 : w.heap.size + 2 < U4.heap.size + 1 := by omega
  have m3 : w.heap.size + 3 < U4.heap.size + 1 := by omega
  have m4 : w.heap.size + 4 < U4.heap.size + 1 := by omega
  have m5 : w.heap.size + 5 < U4.heap.size + 1 := by omega
  gi_wp2
  refine ⟨trivial, ?_⟩
  refine (callsIn_wide.2 (known_calls pe q capE capq (w.heap.size + 2) (evT t) l U4 hel HOL.out (HL.out.below hbU4) hec.hE HRG.out)).mono ?_
  rintro e U5 ⟨rfl, hb⟩
  rw [HKN.out]
  have hbU5 : Below w.heap.size w U5 := hbU4.trans (hb.mono hbU4.size)
  have hec := hec.below hb
  clear hb q0 q1 q2 q3 q4 k0 k1 k2 k3 k4 k5 k6 k7 e0 r3 f3 r4 f4 r5 f5 l0 l1 l2 l3 l4 l5 m0 m1 m2 m3 m4 m5
  have q0 : U5.cell? ⟨w.heap.size, 0, none⟩ = some (.int .i64 t.kd) := by simp [World.cell?, hec.hT, TCells]
  have q1 : U5.cell? ⟨w.heap.size, 1, none⟩ = some (.int .i64 t.n) := by simp [World.cell?, hec.hT, TCells]
  have q2 : U5.cell? ⟨w.heap.size, 2, none⟩ = some (.int .i64 t.ev) := by simp [World.cell?, hec.hT, TCells]
  have q3 : U5.cell? ⟨w.heap.size, 3, none⟩ = some (.bool t.bz) := by simp [World.cell?, hec.hT, TCells]
  have q4 : U5.cell? ⟨w.heap.size, 4, none⟩ = some (.slice t.p t.kids.length t.cap) := by simp [World.cell?, hec.hT, TCells]
  have k0 : U5.cell? ⟨w.heap.size + 1, 0, none⟩ = some (.bool c.b0) := by simp [World.cell?, hec.hC]
  have k1 : U5.cell? ⟨w.heap.size + 1, 1, none⟩ = some (.bool c.b1) := by simp [World.cell?, hec.hC]
  have k2 : U5.cell? ⟨w.heap.size + 1, 2, none⟩ = some (.bool c.b2) := by simp [World.cell?, hec.hC]
  have k3 : U5.cell? ⟨w.heap.size + 1, 3, none⟩ = some (.bool c.b3) := by simp [World.cell?, hec.hC]
  have k4 : U5.cell? ⟨w.heap.size + 1, 4, none⟩ = some (.bool c.b4) := by simp [World.cell?, hec.hC]
  have k5 : U5.cell? ⟨w.heap.size + 1, 5, none⟩ = some (.bool c.b5) := by simp [World.cell?, hec.hC]
  have k6 : U5.cell? ⟨w.heap.size + 1, 6, none⟩ = some (.bool c.b6) := by simp [World.cell?, hec.hC]
  have k7 : U5.cell? ⟨w.heap.size + 1, 7, none⟩ = some (.slice c.p c.hs.length c.cap) := by simp [World.cell?, hec.hC]
  have e0 := (box_cell hec.hE).1
  obtain ⟨r3, f3⟩ := box_cell hec.hI
  obtain ⟨r4, f4⟩ := box_cell hec.hB
  obtain ⟨r5, f5⟩ := box_cell hec.hR
  have l5 : w.heap.size + 5 < U5.heap.size := (Array.getElem?_eq_some_iff.1 hec.hR).1
  have l0 : w.heap.size < U5.heap.size := by omega
  have l1 : w.heap.size + 1 < U5.heap.size := by omega
  have l2 : w.heap.size + 2 < U5.heap.size := by omega
  have l3 : w.heap.size + 3 < U5.heap.size := by omega
  have l4 : w.heap.size + 4 < U5.heap.size := by omega
  have m0 : w.heap.size < U5.heap.size + 1 := by omega
  have m1 : w.heap.size + 1 < U5.heap.size + 1 := by omega
  have m2 : w.heap.size + 2 < U5.heap.size + 1 := by omega
  have m3 : w.heap.size + 3 < U5.heap.size + 1 := by omega
  have m4 : w.heap.size + 4 < U5.heap.size + 1 := by omega
  have m5 : w.heap.size + 5 < U5.heap.size + 1 := by omega
  have hw5 : w.heap.size + 5 < U5.heap.size := l5
  gi_wp2
  refine ⟨trivial, ?_⟩
  refine (callsIn_wide.2 (rules_calls c q l.length capq U5)).mono ?_
  rintro e U6 ⟨rfl, hrm, hrc, hre, hb⟩
  have hbU6 : Below w.heap.size w U6 := hbU5.trans (hb.mono hbU5.size)
  have hec := hec.below hb
  have hs6 := (Array.getElem?_eq_some_iff.1 hrm).1
  clear hb q0 q1 q2 q3 q4 k0 k1 k2 k3 k4 k5 k6 k7 e0 r3 f3 r4 f4 r5 f5 l0 l1 l2 l3 l4 l5 m0 m1 m2 m3 m4 m5
  have q0 : U6.cell? ⟨w.heap.size, 0, none⟩ = some (.int .i64 t.kd) := by simp [World.cell?, hec.hT, TCells]
  have q1 : U6.cell? ⟨w.heap.size, 1, none⟩ = some (.int .i64 t.n) := by simp [World.cell?, hec.hT, TCells]
  have q2 : U6.cell? ⟨w.heap.size, 2, none⟩ = some (.int .i64 t.ev) := by simp [World.cell?, hec.hT, TCells]
  have q3 : U6.cell? ⟨w.heap.size, 3, none⟩ = some (.bool t.bz) := by simp [World.cell?, hec.hT, TCells]
  have q4 : U6.cell? ⟨w.heap.size, 4, none⟩ = some (.slice t.p t.kids.length t.cap) := by simp [World.cell?, hec.hT, TCells]
  have k0 : U6.cell? ⟨w.heap.size + 1, 0, none⟩ = some (.bool c.b0) := by simp [World.cell?, hec.hC]
  have k1 : U6.cell? ⟨w.heap.size + 1, 1, none⟩ = some (.bool c.b1) := by simp [World.cell?, hec.hC]
  have k2 : U6.cell? ⟨w.heap.size + 1, 2, none⟩ = some (.bool c.b2) := by simp [World.cell?, hec.hC]
  have k3 : U6.cell? ⟨w.heap.size + 1, 3, none⟩ = some (.bool c.b3) := by simp [World.cell?, hec.hC]
  have k4 : U6.cell? ⟨w.heap.size + 1, 4, none⟩ = some (.bool c.b4) := by simp [World.cell?, hec.hC]
  have k5 : U6.cell? ⟨w.heap.size + 1, 5, none⟩ = some (.bool c.b5) := by simp [World.cell?, hec.hC]
  have k6 : U6.cell? ⟨w.heap.size + 1, 6, none⟩ = some (.bool c.b6) := by simp [World.cell?, hec.hC]
  have k7 : U6.cell? ⟨w.heap.size + 1, 7, none⟩ = some (.slice c.p c.hs.length c.cap) := by simp [World.cell?, hec.hC]
  have e0 := (box_cell hec.hE).1
  obtain ⟨r3, f3⟩ := box_cell hec.hI
  obtain ⟨r4, f4⟩ := box_cell hec.hB
  obtain ⟨r5, f5⟩ := box_cell hec.hR
  have l5 : w.heap.size + 5 < U6.heap.size := (Array.getElem?_eq_some_iff.1 hec.hR).1
  have l0 : w.heap.size < U6.heap.size := by omega
  have l1 : w.heap.size + 1 < U6.heap.size := by omega
  have l2 : w.heap.size + 2 < U6.heap.size := by omega
  have l3 : w.heap.size + 3 < U6.heap.size := by omega
  have l4 : w.heap.size + 4 < U6.heap.size := by omega
  have m0 : w.heap.size < U6.heap.size + 1 := by omega
  have m1 : w.heap.size + 1 < U6.heap.size + 1 := by omega
  have m2 : w.heap.size + 2 < U6.heap.size + 1 := by omega
  have m3 : w.heap.size + 3 < U6.heap.size + 1 := by omega
  have m4 : w.heap.size + 4 < U6.heap.size + 1 := by omega
  have m5 : w.heap.size + 5 < U6.heap.size + 1 := by omega
  gi_wp2
  refine ⟨trivial, ?_⟩
  refine (callsIn_wide.2 (nodes_plain t _)).mono ?_
  rintro e w' ⟨rfl, rfl⟩
  clear q0 q1 q2 q3 q4 k0 k1 k2 k3 k4 k5 k6 k7 e0 r3 f3 r4 f4 r5 f5 l0 l1 l2 l3 l4 l5 m0 m1 m2 m3 m4 m5
  obtain ⟨N, hN⟩ : ∃ N, N = ((U6.alloc (.cells #[.map (some (U5.heap.size + 2))] 57)).alloc (.cells #[.slice none 0 0] 26)).alloc (.cells (TCells t) 24) := ⟨_, rfl⟩
  have zN : N.heap.size = U6.heap.size + 3 := by rw [hN]; simp
  have bN : Below U6.heap.size U6 N := by rw [hN]; exact (by repeat (first | exact Below.refl _ _ | assumption | refine below_drewN ?_ _ | refine Below.setCell ?_ (by first | (simp; done) | (simp; omega)) _ | refine Below.alloc ?_ (by first | (simp; done) | (simp; omega) | omega) _ | refine Below.drew ?_ | refine Below.trans ?_ (Below.mono (by assumption) (by first | (simp; done) | (simp; omega) | omega))))
  have n1 : N.heap[U6.heap.size]? = some (.cells #[.map (some (U5.heap.size + 2))] 57 (0, 0)) := by rw [hN]; repeat (first | exact heap_new (by simp) | refine (Below.heap_alloc _ _ _ (by first | (simp; done) | (simp; omega))).trans ?_)
  have n2 : N.heap[U6.heap.size + 1]? = some (.cells #[.slice none 0 0] 26 (0, 0)) := by rw [hN]; repeat (first | exact heap_new (by simp) | refine (Below.heap_alloc _ _ _ (by first | (simp; done) | (simp; omega))).trans ?_)
  have n3 : N.heap[U6.heap.size + 2]? = some (.cells (TCells t) 24 (0, 0)) := by rw [hN]; repeat (first | exact heap_new (by simp) | refine (Below.heap_alloc _ _ _ (by first | (simp; done) | (simp; omega))).trans ?_)
  have hbN : Below w.heap.size w N := hbU6.trans (bN.mono hbU6.size)
  have hec := hec.below bN
  have hrm := (bN.block _ hs6).trans hrm
  have hrc := (bN.block _ (by omega)).trans hrc
  have hre := (bN.block _ (by omega)).trans hre
  rw [← hN]
  clear hN bN
  gi_wp2
  refine ⟨trivial, ?_⟩
  refine (callsIn_wide.2 (collect_calls n₀ (U6.heap.size + 2) t N n3 (TIn.below (hbN.mono hn) t HT.out) (by have := hbU6.size; omega) hnl)).mono ?_
  rintro e M ⟨g, capg, rfl, hg1, hg2, hnodes, hb⟩
  have hbM : Below w.heap.size w M := hbN.trans (hb.mono hbN.size)
  have hec := hec.below hb
  have hrm := (hb.block _ (by omega)).trans hrm
  have hrc := (hb.block _ (by omega)).trans hrc
  have hre := (hb.block _ (by omega)).trans hre
  have n1 := (hb.block _ (by omega)).trans n1
  have n2 := (hb.block _ (by omega)).trans n2
  have hsM := hb.size
  clear hb n3
  gi_wp2
  refine ⟨trivial, ?_⟩
  refine (callsIn_wide.2 (backward_calls (some ⟨g, 0, none⟩) (Dl.nds t 1).length capg M)).mono ?_
  rintro e w' ⟨rfl, rfl⟩
  gi_wp2
  obtain ⟨V, hV⟩ : ∃ V, V = M.alloc (.cells #[.slice (some ⟨g, 0, none⟩) (Dl.nds t 1).length capg] 62) := ⟨_, rfl⟩
  have zV : V.heap.size = M.heap.size + 1 := by rw [hV]; simp
  have bV : Below M.heap.size M V := by rw [hV]; exact (Below.refl _ M).alloc (Nat.le_refl _) _
  have v0 : V.heap[M.heap.size]? = some (.cells #[.slice (some ⟨g, 0, none⟩) (Dl.nds t 1).length capg] 62 (0, 0)) := by rw [hV]; exact World.alloc_heap_new M _
  have hbV : Below w.heap.size w V := hbM.trans (bV.mono hbM.size)
  have hec := hec.below bV
  have hrm := (bV.block _ (by omega)).trans hrm
  have hrc := (bV.block _ (by omega)).trans hrc
  have hre := (bV.block _ (by omega)).trans hre
  have n1 : Boxed V U6.heap.size 57 (.map (some (U5.heap.size + 2))) := (bV.block _ (by omega)).trans n1
  have n2 : Boxed V (U6.heap.size + 1) 26 (.slice none 0 0) := (bV.block _ (by omega)).trans n2
  have hnV : NodesAt V g 0 (Dl.nds t 1) := fun i x j hi hj => (bV.cell (p := ⟨g, _, none⟩) hg2).trans (hnodes i x j hi hj)
  have hws := (Array.getElem?_eq_some_iff.1 hec.hR).1
  have zV1 := Nat.le_of_eq zV
  have zV2 := Nat.le_of_eq zV.symm
  clear zV
  have hU5 := hbU5.size
  have HEC := Lib.hid hec
  have HRM := Lib.hid hrm
  have HRC := Lib.hid hrc
  have HRE := Lib.hid hre
  have HN1 := Lib.hid n1
  have HBV := Lib.hid hbV
  rw [← hV]
  clear hV hec hrm hrc hre n1 hbV bV hnodes hbM hbN hbU6 hbU5 hbU4 hbU3 hbU2 hbU1 hbU
  refine wpIn_range_own (F := Fence.wide) rfl (by omega) (gf := 53) (lb := #[.pointer (some ⟨M.heap.size, 0, none⟩)]) rfl trivial (enters_of Tryd.func53 (by kernel_rfl) rfl)
    (enc := fun y => #[.int .i64 (y.2 : Nat), NV y.1]) (xs := bwd (Dl.nds t 1)) (Fx := fun j => j = M.heap.size ∨ j = g)
    (backward_in _ M.heap.size g capg (Dl.nds t 1) V v0 hnV (by omega) (by omega))
    (fun _ => rfl)
    (DI c l t (U6.heap.size + 1) (V.heap.size + 2) V)
    (DX c l t w)
    (fun j => j = U6.heap.size + 1 ∨ (Value.slice none 0 0).ownBlock = some j)
    (fun pre O W h j hj => by
      obtain ⟨v, ds, rfl, _, hr, _, _, _, _, _, _, hs⟩ := h
      have := hs.size
      rcases hj with rfl | hj
      · omega
      · have := own_block hr hj
        omega)
    (fun pre O W h => by obtain ⟨_, _, _, _, _, _, h⟩ := h; omega)
    (fun pre O W W' h hs hz => by
      obtain ⟨v, ds, hO, hv, hr, h1, h2, h3, h4, h5, h6, hS⟩ := h
      exact ⟨v, ds, hO, boxed_same hv hs (by omega), own_same hr hs (fun g hg _ _ => by omega), h1, h2, h3, h4, h5, h6, hS.trans (hs.mono (fun j _ hj => by omega))⟩)
    (fun W W' h hs hz => by
      obtain ⟨er, h1, h2, h3, h4, h5, h6⟩ := h
      exact ⟨er, h1, h2, hs.heap h3 (by omega), hs.heap h4 (by omega), hs.heap h5 (by omega), h6.trans (hs.below h6.size (fun j hj => by omega))⟩)
    (fun j hj h => by
      rcases hj with rfl | hj
      · omega
      · simp [Value.ownBlock] at hj)
    (fun a b => ⟨_, [], rfl, (n2.alloc _).alloc _, World.ownsRow_nil _ _ _ _, by simp, by simp, by simp, rfl, by rw [List.length_nil, List.drop_zero, bwd_rev]; exact enough_rev t, fun h => absurd rfl h, ((Same.refl _ _).alloc _).alloc _⟩)
    (fun y => some (.cells #[.int .i64 y.1.1.kd, .int .i64 y.1.1.n, .int .i64 y.1.1.ev, .bool y.1.1.bz, .slice y.1.1.p y.1.1.kids.length y.1.1.cap, .int .i64 (y.1.2 : Nat)] 64))
    (fun s y => { tmps := #[.agg #[.int .i64 t.kd, .int .i64 t.n, .int .i64 t.ev, .bool t.bz, .slice t.p t.kids.length t.cap], .agg #[.bool c.b0, .bool c.b1, .bool c.b2, .bool c.b3, .bool c.b4, .bool c.b5, .bool c.b6, .slice c.p c.hs.length c.cap], .slice q l.length capq, .pointer (some ⟨w.heap.size, 0, none⟩), .pointer (some ⟨w.heap.size + 1, 0, none⟩), .pointer (some ⟨w.heap.size + 1 + 1, 0, none⟩), .pointer (some ⟨w.heap.size + 1 + 1 + 1, 0, none⟩), .pointer (some ⟨w.heap.size + 1 + 1 + 1 + 1, 0, none⟩), .pointer (some ⟨w.heap.size + 1 + 1 + 1 + 1 + 1, 0, none⟩), .pointer (some ⟨U6.heap.size, 0, none⟩), .pointer (some ⟨U6.heap.size + 1, 0, none⟩), undef, .pointer (some ⟨s, 0, none⟩), undef, undef, undef, .agg #[.bool c.b0, .bool c.b1, .bool c.b2, .bool c.b3, .bool c.b4, .bool c.b5, .bool c.b6, .slice c.p c.hs.length c.cap], .bool true, .bool false, .bool false, .agg #[.int .i64 t.kd, .int .i64 t.n, .int .i64 t.ev, .bool t.bz, .slice t.p t.kids.length t.cap], .slice q l.length capq, .int .i64 (l.length : Nat), .bool true, .bool false, .bool false, .bool false, .slice q l.length capq, .bool true, .bool false, .bool false, .agg #[.int .i64 t.kd, .int .i64 t.n, .int .i64 t.ev, .bool t.bz, .slice t.p t.kids.length t.cap], .slice pe (evT t).length capE, .func (.func 23) #[] #[.pointer (some ⟨w.heap.size + 1 + 1, 0, none⟩)], .bool false, .agg #[.bool c.b0, .bool c.b1, .bool c.b2, .bool c.b3, .bool c.b4, .bool c.b5, .bool c.b6, .slice c.p c.hs.length c.cap], .slice q l.length capq, .map (some (U5.heap.size + 2)), .agg #[.int .i64 t.kd, .int .i64 t.n, .int .i64 t.ev, .bool t.bz, .slice t.p t.kids.length t.cap], .func (.func 55) #[] #[.pointer (some ⟨U6.heap.size + 1 + 1, 0, none⟩)], .slice (some ⟨g, 0, none⟩) (Dl.nds t 1).length capg, .func (.func 53) #[] #[.pointer (some ⟨M.heap.size, 0, none⟩)], .int .i64 (y.2 : Nat), NV y.1, undef, undef, undef, undef, undef, undef, undef, undef, undef, undef, undef, undef, undef, undef, undef, undef, undef, undef, undef, undef, undef, undef, undef, undef, undef, undef, undef, undef, undef, undef, undef, undef, undef, undef], defers := [] }) ?assign ?body ?done ?stop
  case assign =>
    intro k y W K hK
    simp only [NV, allocO] at hK ⊢
    gi_wp2
    exact hK
  case body =>
    rintro k pre y O W0 W1 W2 hx ⟨v, ds, rfl, hv0, hr0, hdl, hpl, hdr, hrun, hen, hne, hsV⟩ hsz s01 s12 z2
    have hpl1 : (pre ++ [y]).length ≤ 40 := by
      have := hx.length_le
      rw [bwd_len] at this
      omega
    simp only [allocO] at s12 z2
    have h01 := s01.size
    have z2' : W2.heap.size = W1.heap.size + 1 := by rw [z2]; simp
    have sV : Same (fun j => j < V.heap.size ∧ j ≠ U6.heap.size + 1) V W2 :=
      ((hsV.trans ((Same.of_below s01).mono (fun _ _ _ => trivial))).alloc _).trans (s12.mono (fun j _ hj => by omega))
    have s02 : Same (fun j => j ≠ V.heap.size + 1) W0 W2 := ((((Same.of_below s01).mono (fun _ _ _ => trivial)).alloc _)).trans s12
    have hob : ∀ g, v.ownBlock = some g → V.heap.size + 2 ≤ g ∧ g < W0.heap.size := fun g hg => own_block hr0 hg
    have hv := boxed_same hv0 s02 (by omega)
    have hrow := own_same hr0 s02 (fun g hg _ _ => by omega)
    have cx : W2.heap[W1.heap.size]? = some (.cells #[.int .i64 y.1.1.kd, .int .i64 y.1.1.n, .int .i64 y.1.1.ev, .bool y.1.1.bz, .slice y.1.1.p y.1.1.kids.length y.1.1.cap, .int .i64 (y.1.2 : Nat)] 64 (0, 0)) := s12.heap (World.alloc_heap_new W1 _) (by omega)
    have x0 : W2.cell? ⟨W1.heap.size, 0, none⟩ = some (.int .i64 y.1.1.kd) := by simp [World.cell?, cx]
    have x1 : W2.cell? ⟨W1.heap.size, 1, none⟩ = some (.int .i64 y.1.1.n) := by simp [World.cell?, cx]
    have x2 : W2.cell? ⟨W1.heap.size, 2, none⟩ = some (.int .i64 y.1.1.ev) := by simp [World.cell?, cx]
    have x3 : W2.cell? ⟨W1.heap.size, 3, none⟩ = some (.bool y.1.1.bz) := by simp [World.cell?, cx]
    have x4 : W2.cell? ⟨W1.heap.size, 4, none⟩ = some (.slice y.1.1.p y.1.1.kids.length y.1.1.cap) := by simp [World.cell?, cx]
    have x5 : W2.cell? ⟨W1.heap.size, 5, none⟩ = some (.int .i64 (y.1.2 : Nat)) := by simp [World.cell?, cx]
    have bW2 : Below w.heap.size w W2 := HBV.out.trans (sV.below (by omega) (fun j hj => by omega))
    have hmc := (box_cell (sV.heap HN1.out (by omega))).1
    have hrm2 := sV.heap HRM.out (by omega)
    have hctx : RCtx W2 c q l capq U5.heap.size (U5.heap.size + 1) := ⟨HC.out.below bW2, HE.out.below bW2, HL.out.below bW2, sV.heap HRC.out (by omega), sV.heap HRE.out (by omega)⟩
    have h3 := sV.heap HEC.out.hI (by omega)
    have h4 := sV.heap HEC.out.hB (by omega)
    have h5 := sV.heap HEC.out.hR (by omega)
    obtain ⟨rs, hrs⟩ := hx
    have hdrop : (bwd (Dl.nds t 1)).drop pre.length = y :: rs := by
      rw [← hrs, List.append_assoc, List.drop_left]
      rfl
    have hym : y ∈ bwd (Dl.nds t 1) := by rw [← hrs]; simp
    have hyn : y.1 ∈ Dl.nds t 1 := by
      unfold bwd at hym
      obtain ⟨i, hi, he⟩ := List.getElem_of_mem (List.mem_reverse.1 hym)
      rw [← he, List.getElem_zipIdx]
      exact List.getElem_mem _
    have hrv : rev t = (pre.map (·.1.1)) ++ y.1.1 :: rs.map (·.1.1) := by
      rw [← bwd_rev, ← hrs]
      simp
    have hok := HOK.out y.1 hyn
    have hkn : isEv y.1.1 = true → knownAt l y.1.1.ev = true := fun hi => by
      have := List.any_eq_false.1 HKN.out _ (mem_evT hyn hi)
      simpa using this
    rw [hdrop, List.map_cons, enough] at hen
    simp only [Bool.and_eq_true, decide_eq_true_eq] at hen
    obtain ⟨hml, hen2⟩ := hen
    have hkl : (ds.drop (ds.length - y.1.1.kids.length)).length = y.1.1.kids.length := by rw [List.length_drop]; omega
    have hkr : ∀ d ∈ ds.drop (ds.length - y.1.1.kids.length), 0 ≤ d ∧ d ≤ 73048 := fun d hd => hdr d (List.mem_of_mem_drop hd)
    have hstep : runS c l (rev t) [] = if (stepS c l ds y.1.1).2 = 0 then runS c l (rs.map (·.1.1)) (stepS c l ds y.1.1).1 else ([], (stepS c l ds y.1.1).2) := by
      rw [hrv, runS_append, hrun, if_pos rfl, runS]
    have hstep2 : runS c l ((pre ++ [y]).map (·.1.1)) [] = if (stepS c l ds y.1.1).2 = 0 then ((stepS c l ds y.1.1).1, 0) else ([], (stepS c l ds y.1.1).2) := by
      rw [List.map_append, runS_append, hrun, if_pos rfl, List.map_cons, List.map_nil, runS]
      rfl
    have hdrop2 : ((bwd (Dl.nds t 1)).drop (pre ++ [y]).length).map (·.1.1) = rs.map (·.1.1) := by
      rw [← hrs, List.drop_left]
    have hspec := rule_spec (c := c) (of_decide_eq_true HV.out) hok hkn HG.out hkr hkl
    obtain ⟨pv, capd, rfl, hcp, hkv⟩ : ∃ pv capd, v = .slice pv ds.length capd ∧ ds.length ≤ capd ∧ (ds.drop (ds.length - y.1.1.kids.length) = [] ∨ ∃ g off cap, (Value.slice (if capd = ds.length - y.1.1.kids.length then pv else pv.map (fun x => x.add (ds.length - y.1.1.kids.length))) (ds.length - (ds.length - y.1.1.kids.length)) (capd - (ds.length - y.1.1.kids.length))) = .slice (some ⟨g, off, none⟩) (ds.drop (ds.length - y.1.1.kids.length)).length cap ∧ IntsAt W2 g off (ds.drop (ds.length - y.1.1.kids.length))) := by
      rcases hrow.2 with ⟨rfl, hd0⟩ | ⟨gd, capd, curd, rfl, hbg, hgg, _⟩
      · refine ⟨none, 0, by rw [hd0], by omega, .inl (List.length_eq_zero_iff.1 (by rw [List.length_drop]; omega))⟩
      · obtain ⟨hn1, hcp, hH⟩ := own_holds hrow
        refine ⟨_, _, rfl, hcp, ?_⟩
        by_cases hq : capd = ds.length - y.1.1.kids.length
        · exact .inl (List.length_eq_zero_iff.1 (by rw [List.length_drop]; omega))
        · right
          rw [if_neg hq]
          refine ⟨gd, 0 + (ds.length - y.1.1.kids.length), capd - (ds.length - y.1.1.kids.length), by rw [List.length_drop]; simp [Addr.add]; try omega, fun j hj => ?_⟩
          rw [List.length_drop] at hj
          have q := (hH (ds.length - y.1.1.kids.length + j) (by simp; omega)).1
          rw [Nat.zero_add] at q
          rw [Nat.zero_add, q]
          simp [List.getD_eq_getElem?_getD, List.getElem?_drop]
    obtain ⟨sp, hsp⟩ : ∃ sp, (if capd = ds.length - y.1.1.kids.length then pv else pv.map (fun x => x.add (ds.length - y.1.1.kids.length))) = sp := ⟨_, rfl⟩
    rw [hsp] at hkv
    have HSL := Lib.hid hsp
    clear hsp
    obtain ⟨F, lb, hlo, eg, hcall⟩ := rule_any c q l capq U5.heap.size (U5.heap.size + 1) y.1 (ds.drop (ds.length - y.1.1.kids.length)) _ W2 hctx hok hkn HG.out hkr hkl hkv
    have hlk : ∀ W, Below W2.heap.size W2 W → _ := fun W hW => look_at (c := false) Tryd.underlying57 Tryd.underlying3 (z := .nilFunc) (Tryd.zeroValue71 W) ((hW.block _ (Array.getElem?_eq_some_iff.1 hrm2).1).trans hrm2) y.1.1.kd
    rw [hlo] at hlk
    simp only [Option.getD_some, Bool.false_eq_true, if_false] at hlk
    have hvc := hv.cell
    obtain ⟨rr1, rr2, hrr⟩ : ∃ a b, ruleS c l y.1.1 (ds.drop (ds.length - y.1.1.kids.length)) = (a, b) := ⟨_, _, rfl⟩
    rw [hrr] at hcall hspec
    have hkb : (ds.length : Int) - (y.1.1.kids.length : Int) ≤ (ds.length : Int) := by omega
    have a1 : W1.heap.size < W2.heap.size := by omega
    have a2 : U6.heap.size + 1 < W2.heap.size := by omega
    have a3 : U6.heap.size < W2.heap.size := by omega
    have a4 : w.heap.size + 5 < W2.heap.size := by omega
    have HCALL := Lib.hid hcall
    have HRR := Lib.hid hrr
    have HSP := Lib.hid hspec
    have HST := Lib.hid hstep
    have HST2 := Lib.hid hstep2
    have HDR := Lib.hid hdr
    have HEN := Lib.hid hen2
    have HD2 := Lib.hid hdrop2
    have HV2 := Lib.hid hv
    have HRW := Lib.hid hrow
    have HSV := Lib.hid sV
    have HB2 := Lib.hid bW2
    have H3 := Lib.hid h3
    have H4 := Lib.hid h4
    have H5 := Lib.hid h5
    have HOB := Lib.hid hob
    clear hcall hrr hspec hstep hstep2 hdr hen2 hdrop2 hv hrow sV bW2 h3 h4 h5 hsV hv0 hr0 s01 s12 s02 z2 z2' cx hctx hrun hrv hok hkn hkr hne hym hyn hrs hdrop hob
    gi_wp2
    refine wpIn_region_heldR (S := (fun w' => Below W2.heap.size W2 w' ∧ ∀ b o, b < W2.heap.size → w'.cell? ⟨b, o, none⟩ = W2.cell? ⟨b, o, none⟩)) (by kernel_rfl) (by kernel_rfl) (holdS (Below.drew (Below.refl _ _))) (fun hHeld => ?_)
    refine wpAnyH_take (i := 0) (v := ?_) rfl (by kernel_rfl) (by kernel_rfl) (by kernel_rfl) (fun _ _ _ h => h) (Or.inl ⟨by rfl, ?hy⟩) (by assumption) ?_
    case hy =>
      intro W hSw
      (try dsimp only at hSw)
      first | (go_simp; done) | (go_simp; with_reducible rfl)
    (try simp only [List.getElem_toArray,  List.getElem_cons_zero, Act.put, List.setIfInBounds_toArray, List.set_cons_zero, List.set_cons_succ])
    refine wpAnyH_take (i := 1) (v := ?_) rfl (by kernel_rfl) (by kernel_rfl) (by kernel_rfl) (fun _ _ _ h => h) (Or.inl ⟨by rfl, ?hy⟩) (by assumption) ?_
    case hy =>
      intro W hSw
      (try dsimp only at hSw)
      first | (go_simp; done) | (go_simp; with_reducible rfl)
    (try simp only [List.getElem_toArray, List.getElem_cons_succ,  List.getElem_cons_zero, Act.put, List.setIfInBounds_toArray, List.set_cons_zero, List.set_cons_succ])
    refine wpAnyH_take (i := 2) (v := ?_) rfl (by kernel_rfl) (by kernel_rfl) (by kernel_rfl) (fun _ _ _ h => h) (Or.inl ⟨by rfl, ?hy⟩) (by assumption) ?_
    case hy =>
      intro W hSw
      (try dsimp only at hSw)
      first | (go_simp; done) | (go_simp; with_reducible rfl)
    (try simp only [List.getElem_toArray, List.getElem_cons_succ,  List.getElem_cons_zero, Act.put, List.setIfInBounds_toArray, List.set_cons_zero, List.set_cons_succ])
    refine wpAnyH_take (i := 3) (v := ?_) rfl (by kernel_rfl) (by kernel_rfl) (by kernel_rfl) (fun _ _ _ h => h) (Or.inl ⟨by rfl, ?hy⟩) (by assumption) ?_
    case hy =>
      intro W hSw
      (try dsimp only at hSw)
      first | (go_simp; done) | (go_simp; with_reducible rfl)
    (try simp only [List.getElem_toArray, List.getElem_cons_succ,  List.getElem_cons_zero, Act.put, List.setIfInBounds_toArray, List.set_cons_zero, List.set_cons_succ])
    refine wpAnyH_take (i := 4) (v := ?_) rfl (by kernel_rfl) (by kernel_rfl) (by kernel_rfl) (fun _ _ _ h => h) (Or.inl ⟨by rfl, ?hy⟩) (by assumption) ?_
    case hy =>
      intro W hSw
      have hlk1 := hlk W hSw.1
      (try dsimp only at hSw)
      first | (go_simp; done) | (go_simp; with_reducible rfl)
    (try simp only [List.getElem_toArray, List.getElem_cons_succ,  List.getElem_cons_zero, Act.put, List.setIfInBounds_toArray, List.set_cons_zero, List.set_cons_succ])
    refine wpAnyH_take (i := 5) (v := ?_) rfl (by kernel_rfl) (by kernel_rfl) (by kernel_rfl) (fun _ _ _ h => h) (Or.inl ⟨by rfl, ?hy⟩) (by assumption) ?_
    case hy =>
      intro W hSw
      (try dsimp only at hSw)
      first | (go_simp; done) | (go_simp; with_reducible rfl)
    (try simp only [List.getElem_toArray, List.getElem_cons_succ,  List.getElem_cons_zero, Act.put, List.setIfInBounds_toArray, List.set_cons_zero, List.set_cons_succ])
    refine wpAnyH_take (i := 6) (v := ?_) rfl (by kernel_rfl) (by kernel_rfl) (by kernel_rfl) (fun _ _ _ h => h) (Or.inl ⟨by rfl, ?hy⟩) (by assumption) ?_
    case hy =>
      intro W hSw
      (try dsimp only at hSw)
      first | (go_simp; done) | (go_simp; with_reducible rfl)
    (try simp only [List.getElem_toArray, List.getElem_cons_succ,  List.getElem_cons_zero, Act.put, List.setIfInBounds_toArray, List.set_cons_zero, List.set_cons_succ])
    refine wpAnyH_take (i := 7) (v := ?_) rfl (by kernel_rfl) (by kernel_rfl) (by kernel_rfl) (fun _ _ _ h => h) (Or.inl ⟨by rfl, ?hy⟩) (by assumption) ?_
    case hy =>
      intro W hSw
      (try dsimp only at hSw)
      first | (go_simp; done) | (go_simp; with_reducible rfl)
    (try simp only [List.getElem_toArray, List.getElem_cons_succ,  List.getElem_cons_zero, Act.put, List.setIfInBounds_toArray, List.set_cons_zero, List.set_cons_succ])
    refine wpAnyH_take (i := 8) (v := ?_) rfl (by kernel_rfl) (by kernel_rfl) (by kernel_rfl) (fun _ _ _ h => h) (Or.inl ⟨by rfl, ?hy⟩) (by assumption) ?_
    case hy =>
      intro W hSw
      have hsp1 := HSL.out
      (try dsimp only at hSw)
      first | (go_simp; done) | (go_simp; with_reducible rfl)
    (try simp only [List.getElem_toArray, List.getElem_cons_succ,  List.getElem_cons_zero, Act.put, List.setIfInBounds_toArray, List.set_cons_zero, List.set_cons_succ])
    refine wpAnyH_ready (rs := [9]) (by kernel_rfl) (by simp) ?_
    refine AllReadyH.cons rfl (fun K hK => ?_) AllReadyH.nil
    go_simp
    refine (HCALL.out _ hHeld.1).mono ?_
    rintro e v1 ⟨rfl, hb1⟩
    simp only [IV]
    go_wp2_with fail
    refine hK.out _ _ (holdT (by assumption) hb1) (fun hHeld => ?_)
    clear hK K
    (try simp only [List.getElem_toArray, List.getElem_cons_succ,  List.getElem_cons_zero, Act.put, List.setIfInBounds_toArray, List.set_cons_zero, List.set_cons_succ])
    refine wpAnyH_take (i := 10) (v := ?_) rfl (by kernel_rfl) (by kernel_rfl) (by kernel_rfl) (fun _ _ _ h => h) (Or.inl ⟨by rfl, ?hy⟩) (by assumption) ?_
    case hy =>
      intro W hSw
      (try dsimp only at hSw)
      first | (go_simp; done) | (go_simp; with_reducible rfl)
    (try simp only [List.getElem_toArray, List.getElem_cons_succ,  List.getElem_cons_zero, Act.put, List.setIfInBounds_toArray, List.set_cons_zero, List.set_cons_succ])
    refine wpAnyH_take (i := 11) (v := ?_) rfl (by kernel_rfl) (by kernel_rfl) (by kernel_rfl) (fun _ _ _ h => h) (Or.inl ⟨by rfl, ?hy⟩) (by assumption) ?_
    case hy =>
      intro W hSw
      (try dsimp only at hSw)
      first | (go_simp; done) | (go_simp; with_reducible rfl)
    (try simp only [List.getElem_toArray, List.getElem_cons_succ,  List.getElem_cons_zero, Act.put, List.setIfInBounds_toArray, List.set_cons_zero, List.set_cons_succ])
    refine wpAnyH_take (i := 12) (v := ?_) rfl (by kernel_rfl) (by kernel_rfl) (by kernel_rfl) (fun _ _ _ h => h) (Or.inl ⟨by rfl, ?hy⟩) (by assumption) ?_
    case hy =>
      intro W hSw
      (try dsimp only at hSw)
      first | (go_simp; done) | (go_simp; with_reducible rfl)
    (try simp only [List.getElem_toArray, List.getElem_cons_succ,  List.getElem_cons_zero, Act.put, List.setIfInBounds_toArray, List.set_cons_zero, List.set_cons_succ])
    refine wpAnyH_take (i := 13) (v := ?_) rfl (by kernel_rfl) (by kernel_rfl) (by kernel_rfl) (fun _ _ _ h => h) (Or.inl ⟨by rfl, ?hy⟩) (by assumption) ?_
    case hy =>
      intro W hSw
      (try dsimp only at hSw)
      first | (go_simp; done) | (go_simp; with_reducible rfl)
    (try simp only [List.getElem_toArray, List.getElem_cons_succ,  List.getElem_cons_zero, Act.put, List.setIfInBounds_toArray, List.set_cons_zero, List.set_cons_succ])
    refine wpAnyH_take (i := 14) (v := ?_) rfl (by kernel_rfl) (by kernel_rfl) (by kernel_rfl) (fun _ _ _ h => h) (Or.inl ⟨by rfl, ?hy⟩) (by assumption) ?_
    case hy =>
      intro W hSw
      (try dsimp only at hSw)
      first | (go_simp; done) | (go_simp; with_reducible rfl)
    (try simp only [List.getElem_toArray, List.getElem_cons_succ,  List.getElem_cons_zero, Act.put, List.setIfInBounds_toArray, List.set_cons_zero, List.set_cons_succ])
    refine wpAnyH_done (by kernel_rfl) ?_ _
    simp only [noOut]
    have hz1 := hHeld.1.size
    have HG3 := Lib.hid ((hHeld.1.block _ (by omega)).trans H3.out)
    have HG4 := Lib.hid ((hHeld.1.block _ (by omega)).trans H4.out)
    have HG5 := Lib.hid ((hHeld.1.block _ (by omega)).trans H5.out)
    obtain ⟨b3, f3⟩ := box_cell HG3.out
    obtain ⟨b4, f4⟩ := box_cell HG4.out
    obtain ⟨b5, f5⟩ := box_cell HG5.out
    have HVN := Lib.hid (show Boxed v1 (U6.heap.size + 1) 26 (.slice pv ds.length capd) from (hHeld.1.block _ a2).trans HV2.out)
    have hvc := HVN.out.cell
    have hvf := HVN.out.frozen
    have HR1 := Lib.hid (own_same HRW.out (Same.of_below hHeld.1) (fun _ _ _ _ => trivial))
    have HH := Lib.hid hHeld.1
    have l9 : w.heap.size + 5 < V.heap.size := by omega
    have l10 : U6.heap.size + 1 < V.heap.size := by omega
    have l11 : V.heap.size + 2 ≤ v1.heap.size := by omega
    clear hHeld hb1 hlk hlo eg x0 x1 x2 x3 x4 x5 hmc
    by_cases h2 : rr2 = 0
    · have h2d : decide (rr2 = 0) = true := by rw [h2]; rfl
      by_cases h3 : 73048 < rr1
      · gi_wp2
        obtain ⟨X, hX⟩ : ∃ X, X = ((v1.setCell ⟨w.heap.size + 3, 0, none⟩ (.int .i64 0)).setCell ⟨w.heap.size + 4, 0, none⟩ (.bool false)).setCell ⟨w.heap.size + 5, 0, none⟩ (.int .i64 2) := ⟨_, rfl⟩
        have sX : Same (fun j => j = V.heap.size ∨ j = V.heap.size + 1) W2 X := by
          rw [hX]
          exact ((((Same.of_below HH.out).mono (fun _ _ _ => trivial)).setCell _ (by first | (simp; done) | (simp; omega) | omega)).setCell _ (by first | (simp; done) | (simp; omega) | omega)).setCell _ (by first | (simp; done) | (simp; omega) | omega)
        have bX : Below w.heap.size w X := by
          rw [hX]
          exact (((HB2.out.trans (HH.out.mono HB2.out.size)).setCell (by first | (simp; done) | (simp; omega) | omega) _).setCell (by first | (simp; done) | (simp; omega) | omega) _).setCell (by first | (simp; done) | (simp; omega) | omega) _
        have t3 : X.heap[w.heap.size + 3]? = some (.cells #[.int .i64 0] 3 (0, 0)) := by
          rw [hX]
          exact (Below.heap_setCell _ _ _ _ (by first | (simp; done) | (simp; omega) | omega)).trans ((Below.heap_setCell _ _ _ _ (by first | (simp; done) | (simp; omega) | omega)).trans (box_set HG3.out))
        have t4 : X.heap[w.heap.size + 4]? = some (.cells #[.bool false] 4 (0, 0)) := by
          rw [hX]
          exact (Below.heap_setCell _ _ _ _ (by first | (simp; done) | (simp; omega) | omega)).trans (box_set ((Below.heap_setCell _ _ _ _ (by first | (simp; done) | (simp; omega) | omega)).trans HG4.out))
        have t5 : X.heap[w.heap.size + 5]? = some (.cells #[.int .i64 2] 33 (0, 0)) := by
          rw [hX]
          exact box_set ((Below.heap_setCell _ _ _ _ (by first | (simp; done) | (simp; omega) | omega)).trans ((Below.heap_setCell _ _ _ _ (by first | (simp; done) | (simp; omega) | omega)).trans HG5.out))
        have hst : stepS c l ds y.1.1 = ([], 2) := by
          unfold stepS
          rw [HRR.out]
          dsimp only
          rw [if_neg (by simp [h2]), if_pos h3]
        rw [← hX]
        exact ⟨sX, ⟨2, by rw [HST.out, hst]; simp, by decide, t3, t4, t5, bX⟩⟩
      · obtain ⟨i0, hi, hz0, hz1, hz2⟩ := info_parts info_int
        have HT1 := Lib.hid (own_take HR1.out (m := ds.length - y.1.1.kids.length) (by omega))
        have hst : stepS c l ds y.1.1 = (ds.take (ds.length - y.1.1.kids.length) ++ [rr1], 0) := by
          unfold stepS
          rw [HRR.out]
          dsimp only
          rw [if_neg (by simp [h2]), if_neg h3]
        have HSTP := Lib.hid hst
        clear hst
        gi_wp2_with (gi_at_builtin; refine wpListIn_append_own_at _ rfl _ _ 26 rfl (V.heap.size + 2) 3 i0 (.int .i64 0) 1 8 Tryd.underlying26 hi hz0 hz1 hz2 rfl (by decide) _ _ _ rfl (HT1.out.alloc _) ⟨v1.heap.size, 0, none⟩ 1 1 [.int .i64 rr1] rfl rfl (cell_one_new _ _ _) (by simp [Value.oneCell']) (by simp [maxLen]; omega) (by omega) (by rw [World.size_alloc]; omega) ?_; intro v' w1 hown' hgrow _ hat; obtain ⟨g', cap', rfl⟩ := ownsRow_succ hown'; have hat := own_at (pv := pv) (m := ds.length - y.1.1.kids.length) (n := ds.length) (cap := capd) hat; have hv1 := (HVN.out.alloc (.cells #[.int .i64 rr1] 3)).kept hgrow (HVN.out.not_row (by decide) HT1.out); have hc1 := hv1.cell; have hf1 := hv1.frozen)
        have s3 : Same (fun j => ¬ (j = U6.heap.size + 1 ∨ (Value.slice pv ds.length capd).ownBlock = some j)) W2 (w1.setCell ⟨U6.heap.size + 1, 0, none⟩ (.slice (some ⟨g', 0, none⟩) (ds.length - y.1.1.kids.length + 1) cap')) :=
          ((((Same.of_below HH.out).mono (fun _ _ _ => trivial)).alloc _).grown hgrow (fun r hr hk => hk (.inr ((own_len _ _ _ _).trans hr)))).setCell _ (fun hk => hk (.inl rfl))
        have hr2 := hown'.kept (grownBy_setCell' w1 (U6.heap.size + 1) (.slice (some ⟨g', 0, none⟩) (ds.length - y.1.1.kids.length + 1) cap')) (.inr (hv1.not_row (by decide) hown').symm)
        have e1 : (ds.take (ds.length - y.1.1.kids.length) ++ [rr1]).length = ds.length - y.1.1.kids.length + 1 := by
          rw [List.length_append, List.length_take, List.length_singleton]
          omega
        refine ⟨_, ⟨_, ds.take (ds.length - y.1.1.kids.length) ++ [rr1], rfl, hv1.set _, ?_, ?_, hpl1, ?_, ?_, ?_, fun _ => by simp, HSV.out.trans (s3.mono (fun j _ hj h => ?_))⟩, s3, fun j hj => ?_⟩
        · rw [e1, List.map_append, List.map_take]
          exact hr2
        · rw [e1, List.length_append, List.length_singleton]
          omega
        · intro d hd
          rcases List.mem_append.1 hd with hd | hd
          · exact HDR.out d (List.mem_of_mem_take hd)
          · rw [List.mem_singleton] at hd
            subst hd
            rcases HSP.out with ⟨r, hr, h0⟩ | hr
            · simp only [Prod.mk.injEq] at hr
              omega
            · simp only [Prod.mk.injEq] at hr
              omega
        · rw [HST2.out, HSTP.out]
          rfl
        · rw [HD2.out, e1]
          exact HEN.out
        · rcases h with h | h
          · exact hj.2 h
          · have := (HOB.out j h).1
            omega
        · rcases hj with h | h
          · exact .inl (.inl h)
          · simp only [Value.ownBlock, Option.some.injEq] at h
            subst h
            rcases hat with hat | hat
            · exact .inl (.inr hat.symm)
            · rw [World.size_alloc] at hat
              exact .inr (by omega)
    · gi_wp2
      obtain ⟨X, hX⟩ : ∃ X, X = ((v1.setCell ⟨w.heap.size + 3, 0, none⟩ (.int .i64 0)).setCell ⟨w.heap.size + 4, 0, none⟩ (.bool false)).setCell ⟨w.heap.size + 5, 0, none⟩ (.int .i64 rr2) := ⟨_, rfl⟩
      have sX : Same (fun j => j = V.heap.size ∨ j = V.heap.size + 1) W2 X := by
        rw [hX]
        exact ((((Same.of_below HH.out).mono (fun _ _ _ => trivial)).setCell _ (by first | (simp; done) | (simp; omega) | omega)).setCell _ (by first | (simp; done) | (simp; omega) | omega)).setCell _ (by first | (simp; done) | (simp; omega) | omega)
      have bX : Below w.heap.size w X := by
        rw [hX]
        exact (((HB2.out.trans (HH.out.mono HB2.out.size)).setCell (by first | (simp; done) | (simp; omega) | omega) _).setCell (by first | (simp; done) | (simp; omega) | omega) _).setCell (by first | (simp; done) | (simp; omega) | omega) _
      have t3 : X.heap[w.heap.size + 3]? = some (.cells #[.int .i64 0] 3 (0, 0)) := by
        rw [hX]
        exact (Below.heap_setCell _ _ _ _ (by first | (simp; done) | (simp; omega) | omega)).trans ((Below.heap_setCell _ _ _ _ (by first | (simp; done) | (simp; omega) | omega)).trans (box_set HG3.out))
      have t4 : X.heap[w.heap.size + 4]? = some (.cells #[.bool false] 4 (0, 0)) := by
        rw [hX]
        exact (Below.heap_setCell _ _ _ _ (by first | (simp; done) | (simp; omega) | omega)).trans (box_set ((Below.heap_setCell _ _ _ _ (by first | (simp; done) | (simp; omega) | omega)).trans HG4.out))
      have t5 : X.heap[w.heap.size + 5]? = some (.cells #[.int .i64 rr2] 33 (0, 0)) := by
        rw [hX]
        exact box_set ((Below.heap_setCell _ _ _ _ (by first | (simp; done) | (simp; omega) | omega)).trans ((Below.heap_setCell _ _ _ _ (by first | (simp; done) | (simp; omega) | omega)).trans HG5.out))
      have hst : stepS c l ds y.1.1 = ([], rr2) := by
        unfold stepS
        rw [HRR.out]
        dsimp only
        rw [if_pos h2]
      rw [← hX]
      exact ⟨sX, ⟨rr2, by rw [HST.out, hst]; simp [h2], h2, t3, t4, t5, bX⟩⟩
  case done =>
    rintro O W0 W ⟨v, ds, rfl, hv0, hr0, hdl, hpl, hdr, hrun, hen, hne, hsV⟩ s0 hd
    rw [bwd_rev] at hrun
    have hv := boxed_same hv0 s0 (by omega)
    have hr := own_same hr0 s0 (fun g hg _ _ => by omega)
    have sW : Same (fun j => j < V.heap.size ∧ j ≠ U6.heap.size + 1) V W := hsV.trans (s0.mono (fun j _ hj => by omega))
    have hWs := sW.size
    have hbW : Below w.heap.size w W := HBV.out.trans (sW.below (by omega) (fun j hj => by omega))
    have hds : ds ≠ [] := hne (fun h => by
      have h1 := bwd_len (Dl.nds t 1)
      rw [h] at h1
      have h2 := Dl.nds_pos t 1
      simp at h1
      omega)
    have g3 := sW.heap HEC.out.hI (by omega)
    have g4 := sW.heap HEC.out.hB (by omega)
    have g5 := sW.heap HEC.out.hR (by omega)
    obtain ⟨b3, f3⟩ := box_cell g3
    obtain ⟨b4, f4⟩ := box_cell g4
    obtain ⟨b5, f5⟩ := box_cell g5
    have hvc := hv.cell
    rcases hr.2 with ⟨rfl, h0⟩ | ⟨gd, capd, cur, rfl, hbg, hgg, _⟩
    · exact absurd (List.length_eq_zero_iff.1 h0) hds
    · obtain ⟨hn1, hcp, hH⟩ := own_holds hr
      obtain ⟨d, ds', rfl⟩ := List.exists_cons_of_ne_nil hds
      have q0 := (hH 0 (by simp)).1
      simp at q0
      have q1 : 0 < (d :: ds').length := by simp
      generalize (d :: ds').length = ln at hvc q1
      have l9 : w.heap.size + 5 < V.heap.size := by omega
      have l12 : w.heap.size + 5 < W.heap.size := by omega
      have l13 := (Array.getElem?_eq_some_iff.1 hgg).1
      have l14 : w.heap.size + 5 < gd := by omega
      have HG3 := Lib.hid g3
      have HG4 := Lib.hid g4
      have HG5 := Lib.hid g5
      have HD := Lib.hid hd
      have HRUN := Lib.hid hrun
      have HBW := Lib.hid hbW
      clear hv0 hr0 hsV s0 sW hbW hr hgg hH hd hn1 hrun g3 g4 g5 hen hne hv hdr hds hdl
      gi_wp2
      obtain ⟨Y, hY⟩ : ∃ Y, Y = ((W.setCell ⟨w.heap.size + 3, 0, none⟩ (.int .i64 d)).setCell ⟨w.heap.size + 4, 0, none⟩ (.bool true)).setCell ⟨w.heap.size + 5, 0, none⟩ (.int .i64 0) := ⟨_, rfl⟩
      have bY : Below w.heap.size w Y := by
        rw [hY]
        exact (((HBW.out).setCell (by first | (simp; done) | (simp; omega) | omega) _).setCell (by first | (simp; done) | (simp; omega) | omega) _).setCell (by first | (simp; done) | (simp; omega) | omega) _
      have t3 : Y.heap[w.heap.size + 3]? = some (.cells #[.int .i64 d] 3 (0, 0)) := by
        rw [hY]
        exact (Below.heap_setCell _ _ _ _ (by first | (simp; done) | (simp; omega) | omega)).trans ((Below.heap_setCell _ _ _ _ (by first | (simp; done) | (simp; omega) | omega)).trans (box_set HG3.out))
      have t4 : Y.heap[w.heap.size + 4]? = some (.cells #[.bool true] 4 (0, 0)) := by
        rw [hY]
        exact (Below.heap_setCell _ _ _ _ (by first | (simp; done) | (simp; omega) | omega)).trans (box_set ((Below.heap_setCell _ _ _ _ (by first | (simp; done) | (simp; omega) | omega)).trans HG4.out))
      have t5 : Y.heap[w.heap.size + 5]? = some (.cells #[.int .i64 0] 33 (0, 0)) := by
        rw [hY]
        exact box_set ((Below.heap_setCell _ _ _ _ (by first | (simp; done) | (simp; omega) | omega)).trans ((Below.heap_setCell _ _ _ _ (by first | (simp; done) | (simp; omega) | omega)).trans HG5.out))
      have hdY : Y.heap[V.heap.size]? = some (.deferred (some [])) := by
        rw [hY]
        exact (Below.heap_setCell _ _ _ _ (by first | (simp; done) | (simp; omega) | omega)).trans ((Below.heap_setCell _ _ _ _ (by first | (simp; done) | (simp; omega) | omega)).trans ((Below.heap_setCell _ _ _ _ (by first | (simp; done) | (simp; omega) | omega)).trans HD.out))
      rw [← hY]
      clear hY
      refine ⟨by simp, .inl ⟨_, _, rfl, run_takeDeferred hdY, ?_⟩⟩
      obtain ⟨X, hX⟩ : ∃ X, X = Y.putObj V.heap.size (.deferred none) := ⟨_, rfl⟩
      have r3 : X.heap[w.heap.size + 3]? = some (.cells #[.int .i64 d] 3 (0, 0)) := by
        rw [hX]
        exact (World.putObj_heap_other (by omega)).trans t3
      have r4 : X.heap[w.heap.size + 4]? = some (.cells #[.bool true] 4 (0, 0)) := by
        rw [hX]
        exact (World.putObj_heap_other (by omega)).trans t4
      have r5 : X.heap[w.heap.size + 5]? = some (.cells #[.int .i64 0] 33 (0, 0)) := by
        rw [hX]
        exact (World.putObj_heap_other (by omega)).trans t5
      have hb6 : Below w.heap.size w X := by
        rw [hX]
        exact bY.trans ((Same.putObj (keep := (· ≠ V.heap.size)) (Same.refl _ _) _ (by simp)).below bY.size (fun j hj => by omega))
      rw [← hX]
      refine ⟨.tuple #[.int .i64 d, .bool true, .int .i64 0], ?_, by rw [HRUN.out]; rfl, hb6⟩
      obtain ⟨q3, _⟩ := box_cell r3
      obtain ⟨q4, _⟩ := box_cell r4
      obtain ⟨q5, _⟩ := box_cell r5
      simp [results, Tryd.f12, go_sem, q3, q4, q5]
  case stop =>
    rintro W0 W ⟨er, h1, h2, h3, h4, h5, hb⟩ s0 hd
    have g3 := s0.heap h3 (by omega)
    have g4 := s0.heap h4 (by omega)
    have g5 := s0.heap h5 (by omega)
    have bW : Below w.heap.size w W := hb.trans (s0.below hb.size (fun j hj => by omega))
    have HX := Lib.hid h1
    clear h1 h3 h4 h5
    gi_wp2
    refine ⟨by simp, .inl ⟨_, _, rfl, run_takeDeferred hd, ?_⟩⟩
    obtain ⟨X, hX⟩ : ∃ X, X = W.putObj V.heap.size (.deferred none) := ⟨_, rfl⟩
    have r3 : X.heap[w.heap.size + 3]? = some (.cells #[.int .i64 0] 3 (0, 0)) := by
      rw [hX]
      exact (World.putObj_heap_other (by omega)).trans g3
    have r4 : X.heap[w.heap.size + 4]? = some (.cells #[.bool false] 4 (0, 0)) := by
      rw [hX]
      exact (World.putObj_heap_other (by omega)).trans g4
    have r5 : X.heap[w.heap.size + 5]? = some (.cells #[.int .i64 er] 33 (0, 0)) := by
      rw [hX]
      exact (World.putObj_heap_other (by omega)).trans g5
    have hb6 : Below w.heap.size w X := by
      rw [hX]
      exact bW.trans ((Same.putObj (keep := (· ≠ V.heap.size)) (Same.refl _ _) _ (by simp)).below bW.size (fun j hj => by omega))
    rw [← hX]
    refine ⟨.tuple #[.int .i64 0, .bool false, .int .i64 er], ?_, by rw [evR, HX.out, if_neg h2], hb6⟩
    obtain ⟨q3, _⟩ := box_cell r3
    obtain ⟨q4, _⟩ := box_cell r4
    obtain ⟨q5, _⟩ := box_cell r5
    simp [results, Tryd.f12, go_sem, q3, q4, q5]
end Go.Proofs.YtlbfnafniobnaaaDoor

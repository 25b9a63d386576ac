/- The rules of the kinds, one by one. -/
import Derived.Test.YtlbfnafniobnaaaDoorDlI
import Derived.BigQuiet
import Derived.Deep.RegionHeld3
namespace Go.Proofs.YtlbfnafniobnaaaDoor
open Go.RowKit Go.Shelf

theorem holdS {W w' : World} (h : Below W.heap.size W w') : Below W.heap.size W w' ∧ ∀ b o, b < W.heap.size → w'.cell? ⟨b, o, none⟩ = W.cell? ⟨b, o, none⟩ := ⟨h, fun b o hb => h.cell (p := ⟨b, o, none⟩) hb⟩
theorem holdT {W w' w'' : World} (h : Below W.heap.size W w' ∧ ∀ b o, b < W.heap.size → w'.cell? ⟨b, o, none⟩ = W.cell? ⟨b, o, none⟩) (hb : Below w'.heap.size w' w'') :
    Below W.heap.size W w'' ∧ ∀ b o, b < W.heap.size → w''.cell? ⟨b, o, none⟩ = W.cell? ⟨b, o, none⟩ := holdS (h.1.trans (hb.mono h.1.size))
def cutD (e : Wh) (n : Int) : Int := if n ≤ e.minute then e.day + 1 else e.day
theorem rule1 (x : Dl.T × Nat) (kv : Value) (w : World) : Calls Tryd.prog 40 #[.agg #[.int .i64 x.1.kd, .int .i64 x.1.n, .int .i64 x.1.ev, .bool x.1.bz, .slice x.1.p x.1.kids.length x.1.cap, .int .i64 (x.2 : Nat)], kv] w fun e w' => e = .returned (IV (x.1.n, 0)) ∧ Below w.heap.size w w' := by
  go_enter Tryd.func40, Tryd.ntmps40
  go_wp2_with fail
  go_ret2
  exact ⟨rfl, (by repeat (first | exact Below.refl _ _ | assumption | refine below_drewN ?_ _ | refine Below.setCell ?_ (by first | (simp; done) | (simp; omega)) _ | refine Below.alloc ?_ (by first | (simp; done) | (simp; omega) | omega) _ | refine Below.drew ?_ | refine Below.trans ?_ (Below.mono (by assumption) (by first | (simp; done) | (simp; omega) | omega))))⟩
theorem rule2 (x : Dl.T × Nat) (kv : Value) (q : Option Addr) (capq eb : Nat) (l : List Wh) (e0 : Wh) (j : Nat) (w : World) (hl : EvAt w q l) (hj : x.1.ev = (j : Int)) (he : l[j]? = some e0) (hb : w.heap[eb]? = some (.cells #[.slice q l.length capq] 29 (0, 0))) :
    Calls Tryd.prog 41 #[.agg #[.int .i64 x.1.kd, .int .i64 x.1.n, .int .i64 x.1.ev, .bool x.1.bz, .slice x.1.p x.1.kids.length x.1.cap, .int .i64 (x.2 : Nat)], kv, .pointer (some ⟨eb, 0, none⟩)] w fun e w' => e = .returned (IV (e0.day, 0)) ∧ Below w.heap.size w w' := by
  have hjl := (List.getElem?_eq_some_iff.1 he).1
  have hi0 : (0 : Int) ≤ (j : Int) := by omega
  have hi1 : (j : Int) < (l.length : Int) := by omega
  obtain ⟨b, off, rfl, ⟨c0, c1, c2⟩, hbl⟩ := hl.at he
  obtain ⟨q0, _⟩ := box_cell hb
  have hel := (Array.getElem?_eq_some_iff.1 hb).1
  rw [hj]
  clear hl he hb
  go_enter Tryd.func41, Tryd.ntmps41
  go_wp2_with fail
  go_ret2
  exact ⟨rfl, (by repeat (first | exact Below.refl _ _ | assumption | refine below_drewN ?_ _ | refine Below.setCell ?_ (by first | (simp; done) | (simp; omega)) _ | refine Below.alloc ?_ (by first | (simp; done) | (simp; omega) | omega) _ | refine Below.drew ?_ | refine Below.trans ?_ (Below.mono (by assumption) (by first | (simp; done) | (simp; omega) | omega))))⟩
theorem rule3 (x : Dl.T × Nat) (kv : Value) (q : Option Addr) (capq eb : Nat) (l : List Wh) (e0 : Wh) (j : Nat) (w : World) (hl : EvAt w q l) (hj : x.1.ev = (j : Int)) (he : l[j]? = some e0) (hb : w.heap[eb]? = some (.cells #[.slice q l.length capq] 29 (0, 0))) (h0 : 0 ≤ e0.day) (h1 : e0.day ≤ 73048) :
    Calls Tryd.prog 42 #[.agg #[.int .i64 x.1.kd, .int .i64 x.1.n, .int .i64 x.1.ev, .bool x.1.bz, .slice x.1.p x.1.kids.length x.1.cap, .int .i64 (x.2 : Nat)], kv, .pointer (some ⟨eb, 0, none⟩)] w fun e w' => e = .returned (IV (cutD e0 x.1.n, 0)) ∧ Below w.heap.size w w' := by
  have hjl := (List.getElem?_eq_some_iff.1 he).1
  have hi0 : (0 : Int) ≤ (j : Int) := by omega
  have hi1 : (j : Int) < (l.length : Int) := by omega
  obtain ⟨b, off, rfl, ⟨c0, c1, c2⟩, hbl⟩ := hl.at he
  obtain ⟨q0, _⟩ := box_cell hb
  have hel := (Array.getElem?_eq_some_iff.1 hb).1
  rw [hj]
  unfold cutD
  clear hl he hb
  by_cases hc : x.1.n ≤ e0.minute
  · rw [if_pos hc]
    go_enter Tryd.func42, Tryd.ntmps42
    go_wp2_with fail
    go_ret2
    exact ⟨rfl, (by repeat (first | exact Below.refl _ _ | assumption | refine below_drewN ?_ _ | refine Below.setCell ?_ (by first | (simp; done) | (simp; omega)) _ | refine Below.alloc ?_ (by first | (simp; done) | (simp; omega) | omega) _ | refine Below.drew ?_ | refine Below.trans ?_ (Below.mono (by assumption) (by first | (simp; done) | (simp; omega) | omega))))⟩
  · rw [if_neg hc]
    go_enter Tryd.func42, Tryd.ntmps42
    go_wp2_with fail
    go_ret2
    exact ⟨rfl, (by repeat (first | exact Below.refl _ _ | assumption | refine below_drewN ?_ _ | refine Below.setCell ?_ (by first | (simp; done) | (simp; omega)) _ | refine Below.alloc ?_ (by first | (simp; done) | (simp; omega) | omega) _ | refine Below.drew ?_ | refine Below.trans ?_ (Below.mono (by assumption) (by first | (simp; done) | (simp; omega) | omega))))⟩
set_option maxHeartbeats 1600000 in
theorem rule4b (x : Dl.T × Nat) (g off m cap cb : Nat) (ds : List Int) (d0 : Int) (c : Cal) (w : World) (hm : ds.length = m) (h1 : 1 ≤ m) (hd : IntsAt w g off ds) (h0 : ds.getD 0 0 = d0) (hc : CalIn w c) (hb : w.heap[cb]? = some (.cells #[.bool c.b0, .bool c.b1, .bool c.b2, .bool c.b3, .bool c.b4, .bool c.b5, .bool c.b6, .slice c.p c.hs.length c.cap] 28 (0, 0))) (hbz : x.1.bz = true) :
    Calls Tryd.prog 43 #[.agg #[.int .i64 x.1.kd, .int .i64 x.1.n, .int .i64 x.1.ev, .bool x.1.bz, .slice x.1.p x.1.kids.length x.1.cap, .int .i64 (x.2 : Nat)], .slice (some ⟨g, off, none⟩) m cap, .pointer (some ⟨cb, 0, none⟩)] w fun e w' => e = .returned (IV (FA c d0 x.1.n)) ∧ Below w.heap.size w w' := by
  have c0 := hd 0 (by omega)
  rw [h0, Nat.add_zero] at c0
  have hgl := World.block_lt_of_cell? w _ c0
  have hm0 : (0 : Int) < (m : Int) := by omega
  have hm1 : 0 < m := by omega
  have hel := (Array.getElem?_eq_some_iff.1 hb).1
  have k0 : w.cell? ⟨cb, 0, none⟩ = some (.bool c.b0) := by simp [World.cell?, hb]
  have k1 : w.cell? ⟨cb, 1, none⟩ = some (.bool c.b1) := by simp [World.cell?, hb]
  have k2 : w.cell? ⟨cb, 2, none⟩ = some (.bool c.b2) := by simp [World.cell?, hb]
  have k3 : w.cell? ⟨cb, 3, none⟩ = some (.bool c.b3) := by simp [World.cell?, hb]
  have k4 : w.cell? ⟨cb, 4, none⟩ = some (.bool c.b4) := by simp [World.cell?, hb]
  have k5 : w.cell? ⟨cb, 5, none⟩ = some (.bool c.b5) := by simp [World.cell?, hb]
  have k6 : w.cell? ⟨cb, 6, none⟩ = some (.bool c.b6) := by simp [World.cell?, hb]
  have k7 : w.cell? ⟨cb, 7, none⟩ = some (.slice c.p c.hs.length c.cap) := by simp [World.cell?, hb]
  rw [hbz]
  have HC := Lib.hid hc
  obtain ⟨r1, r2, hr⟩ : ∃ r1 r2, FA c d0 x.1.n = (r1, r2) := ⟨_, _, rfl⟩
  have HR := Lib.hid hr
  clear hd hb hc hr
  go_enter Tryd.func43, Tryd.ntmps43
  go_upto_region 2 with fail
  obtain ⟨wx, hwx⟩ : ∃ W, W = w.alloc (.cells #[.int .i64 x.1.kd, .int .i64 x.1.n, .int .i64 x.1.ev, .bool true, .slice x.1.p x.1.kids.length x.1.cap, .int .i64 (x.2 : Nat)] 64) := ⟨_, rfl⟩
  have bx : Below w.heap.size w wx := by rw [hwx]; exact (Below.refl _ w).alloc (Nat.le_refl _) _
  have y1 : wx.cell? ⟨w.heap.size, 1, none⟩ = some (.int .i64 x.1.n) := by rw [hwx]; go_simp
  have lx : w.heap.size < wx.heap.size := World.block_lt_of_cell? wx _ y1
  rw [← hwx]
  clear hwx
  have c0 := cell_keep bx c0
  have hgl : g < wx.heap.size := World.block_lt_of_cell? wx _ c0
  have HBX := Lib.hid bx
  have k0 := cell_keep bx k0
  have k1 := cell_keep bx k1
  have k2 := cell_keep bx k2
  have k3 := cell_keep bx k3
  have k4 := cell_keep bx k4
  have k5 := cell_keep bx k5
  have k6 := cell_keep bx k6
  have k7 := cell_keep bx k7
  have hel : cb < wx.heap.size := World.block_lt_of_cell? wx _ k0
  have HC := Lib.hid (HC.out.below bx)
  clear bx
  go_region_held3 (fun w' => Below wx.heap.size wx w' ∧ ∀ b o, b < wx.heap.size → w'.cell? ⟨b, o, none⟩ = wx.cell? ⟨b, o, none⟩) (first | assumption | exact holdT (by assumption) (by assumption) | exact holdS (by repeat (first | exact Below.refl _ _ | assumption | refine below_drewN ?_ _ | refine Below.setCell ?_ (by first | (simp; done) | (simp; omega)) _ | refine Below.alloc ?_ (by first | (simp; done) | (simp; omega) | omega) _ | refine Below.drew ?_ | refine Below.trans ?_ (Below.mono (by assumption) (by first | (simp; done) | (simp; omega) | omega)))))
    (first | (go_at_call 44; refine (add_calls c d0 x.1.n _ (HC.out.below (by first | exact And.left (by assumption) | exact (by repeat (first | exact Below.refl _ _ | assumption | refine below_drewN ?_ _ | refine Below.setCell ?_ (by first | (simp; done) | (simp; omega)) _ | refine Below.alloc ?_ (by first | (simp; done) | (simp; omega) | omega) _ | refine Below.drew ?_ | refine Below.trans ?_ (Below.mono (by assumption) (by first | (simp; done) | (simp; omega) | omega))))))).mono ?_; rintro e w' ⟨rfl, hb'⟩; rw [HR.out]; simp only [IV]))
  all_goals
    go_wp2_with fail
    go_ret2
    exact ⟨by rw [HR.out]; rfl, HBX.out.trans (Below.mono (by repeat (first | exact Below.refl _ _ | assumption | refine below_drewN ?_ _ | refine Below.setCell ?_ (by first | (simp; done) | (simp; omega)) _ | refine Below.alloc ?_ (by first | (simp; done) | (simp; omega) | omega) _ | refine Below.drew ?_ | refine Below.trans ?_ (Below.mono (by assumption) (by first | (simp; done) | (simp; omega) | omega)))) HBX.out.size)⟩
theorem rule4p (x : Dl.T × Nat) (g off m cap cb : Nat) (ds : List Int) (d0 : Int) (w : World) (hm : ds.length = m) (h1 : 1 ≤ m) (hd : IntsAt w g off ds) (h0 : ds.getD 0 0 = d0) (hbz : x.1.bz = false) (b0 : 0 ≤ d0) (b1 : d0 ≤ 73048) (b2 : 0 ≤ x.1.n) (b3 : x.1.n ≤ 1000) :
    Calls Tryd.prog 43 #[.agg #[.int .i64 x.1.kd, .int .i64 x.1.n, .int .i64 x.1.ev, .bool x.1.bz, .slice x.1.p x.1.kids.length x.1.cap, .int .i64 (x.2 : Nat)], .slice (some ⟨g, off, none⟩) m cap, .pointer (some ⟨cb, 0, none⟩)] w fun e w' => e = .returned (IV (d0 + x.1.n, 0)) ∧ Below w.heap.size w w' := by
  have c0 := hd 0 (by omega)
  rw [h0, Nat.add_zero] at c0
  have hgl := World.block_lt_of_cell? w _ c0
  have hm0 : (0 : Int) < (m : Int) := by omega
  have hm1 : 0 < m := by omega
  rw [hbz]
  clear hd
  go_enter Tryd.func43, Tryd.ntmps43
  go_upto_region 3 with fail
  go_quiet (fail)
  go_wp2_with fail
  go_ret2
  exact ⟨rfl, (by repeat (first | exact Below.refl _ _ | assumption | refine below_drewN ?_ _ | refine Below.setCell ?_ (by first | (simp; done) | (simp; omega)) _ | refine Below.alloc ?_ (by first | (simp; done) | (simp; omega) | omega) _ | refine Below.drew ?_ | refine Below.trans ?_ (Below.mono (by assumption) (by first | (simp; done) | (simp; omega) | omega))))⟩
set_option maxHeartbeats 1600000 in
theorem rule5 (x : Dl.T × Nat) (g off m cap : Nat) (ds : List Int) (d0 : Int) (w : World) (hm : ds.length = m) (h1 : 1 ≤ m) (hd : IntsAt w g off ds) (h0 : ds.getD 0 0 = d0) (hE : Env w) (b2 : 0 ≤ x.1.n) (b3 : x.1.n ≤ 120) :
    Calls Tryd.prog 45 #[.agg #[.int .i64 x.1.kd, .int .i64 x.1.n, .int .i64 x.1.ev, .bool x.1.bz, .slice x.1.p x.1.kids.length x.1.cap, .int .i64 (x.2 : Nat)], .slice (some ⟨g, off, none⟩) m cap] w fun e w' => e = .returned (IV (FM d0 x.1.n)) ∧ Below w.heap.size w w' := by
  have c0 := hd 0 (by omega)
  rw [h0, Nat.add_zero] at c0
  have hgl := World.block_lt_of_cell? w _ c0
  have hm0 : (0 : Int) < (m : Int) := by omega
  have hm1 : 0 < m := by omega
  have HC := Lib.hid hE
  obtain ⟨r1, r2, hr⟩ : ∃ r1 r2, FM d0 x.1.n = (r1, r2) := ⟨_, _, rfl⟩
  have HR := Lib.hid hr
  clear hd hE hr
  go_enter Tryd.func45, Tryd.ntmps45
  go_upto_region 1 with fail
  obtain ⟨wx, hwx⟩ : ∃ W, W = w.alloc (.cells #[.int .i64 x.1.kd, .int .i64 x.1.n, .int .i64 x.1.ev, .bool x.1.bz, .slice x.1.p x.1.kids.length x.1.cap, .int .i64 (x.2 : Nat)] 64) := ⟨_, rfl⟩
  have bx : Below w.heap.size w wx := by rw [hwx]; exact (Below.refl _ w).alloc (Nat.le_refl _) _
  have y1 : wx.cell? ⟨w.heap.size, 1, none⟩ = some (.int .i64 x.1.n) := by rw [hwx]; go_simp
  have lx : w.heap.size < wx.heap.size := World.block_lt_of_cell? wx _ y1
  rw [← hwx]
  clear hwx
  have c0 := cell_keep bx c0
  have hgl : g < wx.heap.size := World.block_lt_of_cell? wx _ c0
  have HBX := Lib.hid bx
  have HC := Lib.hid (HC.out.below bx)
  clear bx
  go_region_held3 (fun w' => Below wx.heap.size wx w' ∧ ∀ b o, b < wx.heap.size → w'.cell? ⟨b, o, none⟩ = wx.cell? ⟨b, o, none⟩) (first | assumption | exact holdT (by assumption) (by assumption) | exact holdS (by repeat (first | exact Below.refl _ _ | assumption | refine below_drewN ?_ _ | refine Below.setCell ?_ (by first | (simp; done) | (simp; omega)) _ | refine Below.alloc ?_ (by first | (simp; done) | (simp; omega) | omega) _ | refine Below.drew ?_ | refine Below.trans ?_ (Below.mono (by assumption) (by first | (simp; done) | (simp; omega) | omega)))))
    (first | (go_at_call 46; refine (months_calls d0 x.1.n _ (HC.out.below (by first | exact And.left (by assumption) | exact (by repeat (first | exact Below.refl _ _ | assumption | refine below_drewN ?_ _ | refine Below.setCell ?_ (by first | (simp; done) | (simp; omega)) _ | refine Below.alloc ?_ (by first | (simp; done) | (simp; omega) | omega) _ | refine Below.drew ?_ | refine Below.trans ?_ (Below.mono (by assumption) (by first | (simp; done) | (simp; omega) | omega)))))) (by omega) (by omega)).mono ?_; rintro e w' ⟨rfl, hb'⟩; rw [HR.out]; simp only [IV]))
  all_goals
    go_wp2_with fail
    go_ret2
    exact ⟨by rw [HR.out]; rfl, HBX.out.trans (Below.mono (by repeat (first | exact Below.refl _ _ | assumption | refine below_drewN ?_ _ | refine Below.setCell ?_ (by first | (simp; done) | (simp; omega)) _ | refine Below.alloc ?_ (by first | (simp; done) | (simp; omega) | omega) _ | refine Below.drew ?_ | refine Below.trans ?_ (Below.mono (by assumption) (by first | (simp; done) | (simp; omega) | omega)))) HBX.out.size)⟩
set_option maxHeartbeats 1600000 in
theorem rule6 (x : Dl.T × Nat) (g off m cap cb : Nat) (ds : List Int) (d0 : Int) (c : Cal) (w : World) (hm : ds.length = m) (h1 : 1 ≤ m) (hd : IntsAt w g off ds) (h0 : ds.getD 0 0 = d0) (hc : CalIn w c) (hb : w.heap[cb]? = some (.cells #[.bool c.b0, .bool c.b1, .bool c.b2, .bool c.b3, .bool c.b4, .bool c.b5, .bool c.b6, .slice c.p c.hs.length c.cap] 28 (0, 0))) :
    Calls Tryd.prog 47 #[.agg #[.int .i64 x.1.kd, .int .i64 x.1.n, .int .i64 x.1.ev, .bool x.1.bz, .slice x.1.p x.1.kids.length x.1.cap, .int .i64 (x.2 : Nat)], .slice (some ⟨g, off, none⟩) m cap, .pointer (some ⟨cb, 0, none⟩)] w fun e w' => e = .returned (IV (FN c d0)) ∧ Below w.heap.size w w' := by
  have c0 := hd 0 (by omega)
  rw [h0, Nat.add_zero] at c0
  have hgl := World.block_lt_of_cell? w _ c0
  have hm0 : (0 : Int) < (m : Int) := by omega
  have hm1 : 0 < m := by omega
  have hel := (Array.getElem?_eq_some_iff.1 hb).1
  have k0 : w.cell? ⟨cb, 0, none⟩ = some (.bool c.b0) := by simp [World.cell?, hb]
  have k1 : w.cell? ⟨cb, 1, none⟩ = some (.bool c.b1) := by simp [World.cell?, hb]
  have k2 : w.cell? ⟨cb, 2, none⟩ = some (.bool c.b2) := by simp [World.cell?, hb]
  have k3 : w.cell? ⟨cb, 3, none⟩ = some (.bool c.b3) := by simp [World.cell?, hb]
  have k4 : w.cell? ⟨cb, 4, none⟩ = some (.bool c.b4) := by simp [World.cell?, hb]
  have k5 : w.cell? ⟨cb, 5, none⟩ = some (.bool c.b5) := by simp [World.cell?, hb]
  have k6 : w.cell? ⟨cb, 6, none⟩ = some (.bool c.b6) := by simp [World.cell?, hb]
  have k7 : w.cell? ⟨cb, 7, none⟩ = some (.slice c.p c.hs.length c.cap) := by simp [World.cell?, hb]
  have HC := Lib.hid hc
  obtain ⟨r1, r2, hr⟩ : ∃ r1 r2, FN c d0 = (r1, r2) := ⟨_, _, rfl⟩
  have HR := Lib.hid hr
  clear hd hb hc hr
  go_enter Tryd.func47, Tryd.ntmps47
  go_upto_region 1 with fail
  obtain ⟨wx, hwx⟩ : ∃ W, W = w.alloc (.cells #[.int .i64 x.1.kd, .int .i64 x.1.n, .int .i64 x.1.ev, .bool x.1.bz, .slice x.1.p x.1.kids.length x.1.cap, .int .i64 (x.2 : Nat)] 64) := ⟨_, rfl⟩
  have bx : Below w.heap.size w wx := by rw [hwx]; exact (Below.refl _ w).alloc (Nat.le_refl _) _
  have y1 : wx.cell? ⟨w.heap.size, 1, none⟩ = some (.int .i64 x.1.n) := by rw [hwx]; go_simp
  have lx : w.heap.size < wx.heap.size := World.block_lt_of_cell? wx _ y1
  rw [← hwx]
  clear hwx
  have c0 := cell_keep bx c0
  have hgl : g < wx.heap.size := World.block_lt_of_cell? wx _ c0
  have HBX := Lib.hid bx
  have k0 := cell_keep bx k0
  have k1 := cell_keep bx k1
  have k2 := cell_keep bx k2
  have k3 := cell_keep bx k3
  have k4 := cell_keep bx k4
  have k5 := cell_keep bx k5
  have k6 := cell_keep bx k6
  have k7 := cell_keep bx k7
  have hel : cb < wx.heap.size := World.block_lt_of_cell? wx _ k0
  have HC := Lib.hid (HC.out.below bx)
  clear bx
  go_region_held3 (fun w' => Below wx.heap.size wx w' ∧ ∀ b o, b < wx.heap.size → w'.cell? ⟨b, o, none⟩ = wx.cell? ⟨b, o, none⟩) (first | assumption | exact holdT (by assumption) (by assumption) | exact holdS (by repeat (first | exact Below.refl _ _ | assumption | refine below_drewN ?_ _ | refine Below.setCell ?_ (by first | (simp; done) | (simp; omega)) _ | refine Below.alloc ?_ (by first | (simp; done) | (simp; omega) | omega) _ | refine Below.drew ?_ | refine Below.trans ?_ (Below.mono (by assumption) (by first | (simp; done) | (simp; omega) | omega)))))
    (first | (go_at_call 48; refine (next_calls c d0 _ (HC.out.below (by first | exact And.left (by assumption) | exact (by repeat (first | exact Below.refl _ _ | assumption | refine below_drewN ?_ _ | refine Below.setCell ?_ (by first | (simp; done) | (simp; omega)) _ | refine Below.alloc ?_ (by first | (simp; done) | (simp; omega) | omega) _ | refine Below.drew ?_ | refine Below.trans ?_ (Below.mono (by assumption) (by first | (simp; done) | (simp; omega) | omega))))))).mono ?_; rintro e w' ⟨rfl, hb'⟩; rw [HR.out]; simp only [IV]))
  all_goals
    go_wp2_with fail
    go_ret2
    exact ⟨by rw [HR.out]; rfl, HBX.out.trans (Below.mono (by repeat (first | exact Below.refl _ _ | assumption | refine below_drewN ?_ _ | refine Below.setCell ?_ (by first | (simp; done) | (simp; omega)) _ | refine Below.alloc ?_ (by first | (simp; done) | (simp; omega) | omega) _ | refine Below.drew ?_ | refine Below.trans ?_ (Below.mono (by assumption) (by first | (simp; done) | (simp; omega) | omega)))) HBX.out.size)⟩
theorem rule7 (x : Dl.T × Nat) (g off m cap : Nat) (ds : List Int) (w : World) (hm : ds.length = m) (h1 : 1 ≤ m) (h2 : m ≤ 1000) (hd : IntsAt w g off ds) :
    Calls Tryd.prog 49 #[.agg #[.int .i64 x.1.kd, .int .i64 x.1.n, .int .i64 x.1.ev, .bool x.1.bz, .slice x.1.p x.1.kids.length x.1.cap, .int .i64 (x.2 : Nat)], .slice (some ⟨g, off, none⟩) m cap] w fun e w' => e = .returned (IV (Lib.minOf ds, 0)) ∧ Below w.heap.size w w' := by
  have HD := Lib.hid hd
  have HM := Lib.hid hm
  clear hd hm
  go_enter Tryd.func49, Tryd.ntmps49
  go_wp2_with fail
  refine (Tryd.slices_Min_int g off m cap ds _ (by omega) (by rw [HM.out]; exact Nat.le_refl _) (by omega) (HD.out.below (by repeat (first | exact Below.refl _ _ | assumption | refine below_drewN ?_ _ | refine Below.setCell ?_ (by first | (simp; done) | (simp; omega)) _ | refine Below.alloc ?_ (by first | (simp; done) | (simp; omega) | omega) _ | refine Below.drew ?_ | refine Below.trans ?_ (Below.mono (by assumption) (by first | (simp; done) | (simp; omega) | omega)))))).mono ?_
  rintro e w' ⟨rfl, rfl⟩
  rw [List.take_of_length_le (by rw [HM.out]; exact Nat.le_refl _)]
  go_wp2_with fail
  go_ret2
  exact ⟨rfl, (by repeat (first | exact Below.refl _ _ | assumption | refine below_drewN ?_ _ | refine Below.setCell ?_ (by first | (simp; done) | (simp; omega)) _ | refine Below.alloc ?_ (by first | (simp; done) | (simp; omega) | omega) _ | refine Below.drew ?_ | refine Below.trans ?_ (Below.mono (by assumption) (by first | (simp; done) | (simp; omega) | omega))))⟩
theorem rule8 (x : Dl.T × Nat) (g off m cap : Nat) (ds : List Int) (w : World) (hm : ds.length = m) (h1 : 1 ≤ m) (h2 : m ≤ 1000) (hd : IntsAt w g off ds) :
    Calls Tryd.prog 51 #[.agg #[.int .i64 x.1.kd, .int .i64 x.1.n, .int .i64 x.1.ev, .bool x.1.bz, .slice x.1.p x.1.kids.length x.1.cap, .int .i64 (x.2 : Nat)], .slice (some ⟨g, off, none⟩) m cap] w fun e w' => e = .returned (IV (Lib.maxOf ds, 0)) ∧ Below w.heap.size w w' := by
  have HD := Lib.hid hd
  have HM := Lib.hid hm
  clear hd hm
  go_enter Tryd.func51, Tryd.ntmps51
  go_wp2_with fail
  refine (Tryd.slices_Max_int g off m cap ds _ (by omega) (by rw [HM.out]; exact Nat.le_refl _) (by omega) (HD.out.below (by repeat (first | exact Below.refl _ _ | assumption | refine below_drewN ?_ _ | refine Below.setCell ?_ (by first | (simp; done) | (simp; omega)) _ | refine Below.alloc ?_ (by first | (simp; done) | (simp; omega) | omega) _ | refine Below.drew ?_ | refine Below.trans ?_ (Below.mono (by assumption) (by first | (simp; done) | (simp; omega) | omega)))))).mono ?_
  rintro e w' ⟨rfl, rfl⟩
  rw [List.take_of_length_le (by rw [HM.out]; exact Nat.le_refl _)]
  go_wp2_with fail
  go_ret2
  exact ⟨rfl, (by repeat (first | exact Below.refl _ _ | assumption | refine below_drewN ?_ _ | refine Below.setCell ?_ (by first | (simp; done) | (simp; omega)) _ | refine Below.alloc ?_ (by first | (simp; done) | (simp; omega) | omega) _ | refine Below.drew ?_ | refine Below.trans ?_ (Below.mono (by assumption) (by first | (simp; done) | (simp; omega) | omega))))⟩
end Go.Proofs.YtlbfnafniobnaaaDoor

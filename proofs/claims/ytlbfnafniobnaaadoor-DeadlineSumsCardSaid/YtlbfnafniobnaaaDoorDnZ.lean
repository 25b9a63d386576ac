/- DeadlineSums: the walk of the law. -/
import Derived.Test.YtlbfnafniobnaaaDoorDnP
import Derived.Test.YtlbfnafniobnaaaDoorDnV
import Derived.Test.YtlbfnafniobnaaaDoorDlZ
namespace Go.Proofs.YtlbfnafniobnaaaDoor
open Go.RowKit Go.Shelf

theorem wrap_in (n : Int) (h0 : -9223372036854775808 ≤ n) (h1 : n ≤ 9223372036854775807) : IntKind.i64.wrap n = n := by
  rw [IntKind.wrap_i64]
  omega
set_option maxRecDepth 100000 in
set_option maxHeartbeats 1600000 in
theorem su_s (t : Dl.T) (c : Cal) (q : Option Addr) (capq : Nat) (l : List Wh) (one two : Int) (w : World) (ht : TAt w t) (hn : LenOK t) (hc : CalIn w c) (hl : EvAt w q l) (he : Env w) (hs : smallB t l = false) :
    Calls Tryd.prog 7 #[.agg #[.int .i64 t.kd, .int .i64 t.n, .int .i64 t.ev, .bool t.bz, .slice t.p t.kids.length t.cap], .agg #[.bool c.b0, .bool c.b1, .bool c.b2, .bool c.b3, .bool c.b4, .bool c.b5, .bool c.b6, .slice c.p c.hs.length c.cap], .slice q l.length capq, .int .u16 one, .int .u16 two] w fun e w' => e = .returned (.bool true) ∧ Below w.heap.size w w' := by
  have HT0 := Lib.hid ht
  clear ht
  have HC0 := Lib.hid hc
  clear hc
  have HL0 := Lib.hid hl
  clear hl
  have HE0 := Lib.hid he
  clear he
  have HN := Lib.hid hn
  clear hn
  have HS := Lib.hid hs
  clear hs
  go_enter Tryd.func7, Tryd.ntmps7
  go_wp2_with fail
  refine (head_any _ (HE0.out.below (by repeat (first | exact Below.refl _ _ | assumption | refine below_drewN ?_ _ | refine Below.setCell ?_ (by first | (simp; done) | (simp; omega)) _ | refine Below.alloc ?_ (by first | (simp; done) | (simp; omega) | omega) _ | refine Below.drew ?_ | refine Below.trans ?_ (Below.mono (by assumption) (by first | (simp; done) | (simp; omega) | omega)))))).mono ?_
  rintro e w1 ⟨rfl, hb1⟩
  have hz1 := hb1.size
  (try simp at hz1)
  have bb1 : Below w.heap.size w w1 := (by repeat (first | exact Below.refl _ _ | assumption | refine below_drewN ?_ _ | refine Below.setCell ?_ (by first | (simp; done) | (simp; omega)) _ | refine Below.alloc ?_ (by first | (simp; done) | (simp; omega) | omega) _ | refine Below.drew ?_ | refine Below.trans ?_ (Below.mono (by assumption) (by first | (simp; done) | (simp; omega) | omega))))
  have be1 : Below w.heap.size w w1 := bb1
  have c1_t_0 : w1.cell? ⟨w.heap.size, 0, none⟩ = some (.int .i64 t.kd) := cell_keep hb1 (by go_simp)
  have c1_t_1 : w1.cell? ⟨w.heap.size, 1, none⟩ = some (.int .i64 t.n) := cell_keep hb1 (by go_simp)
  have c1_t_2 : w1.cell? ⟨w.heap.size, 2, none⟩ = some (.int .i64 t.ev) := cell_keep hb1 (by go_simp)
  have c1_t_3 : w1.cell? ⟨w.heap.size, 3, none⟩ = some (.bool t.bz) := cell_keep hb1 (by go_simp)
  have c1_t_4 : w1.cell? ⟨w.heap.size, 4, none⟩ = some (.slice t.p t.kids.length t.cap) := cell_keep hb1 (by go_simp)
  have l1_t : w.heap.size < w1.heap.size := by omega
  have m1_t : w.heap.size < w1.heap.size + 1 := by omega
  have c1_c_0 : w1.cell? ⟨w.heap.size + 1, 0, none⟩ = some (.bool c.b0) := cell_keep hb1 (by go_simp)
  have c1_c_1 : w1.cell? ⟨w.heap.size + 1, 1, none⟩ = some (.bool c.b1) := cell_keep hb1 (by go_simp)
  have c1_c_2 : w1.cell? ⟨w.heap.size + 1, 2, none⟩ = some (.bool c.b2) := cell_keep hb1 (by go_simp)
  have c1_c_3 : w1.cell? ⟨w.heap.size + 1, 3, none⟩ = some (.bool c.b3) := cell_keep hb1 (by go_simp)
  have c1_c_4 : w1.cell? ⟨w.heap.size + 1, 4, none⟩ = some (.bool c.b4) := cell_keep hb1 (by go_simp)
  have c1_c_5 : w1.cell? ⟨w.heap.size + 1, 5, none⟩ = some (.bool c.b5) := cell_keep hb1 (by go_simp)
  have c1_c_6 : w1.cell? ⟨w.heap.size + 1, 6, none⟩ = some (.bool c.b6) := cell_keep hb1 (by go_simp)
  have c1_c_7 : w1.cell? ⟨w.heap.size + 1, 7, none⟩ = some (.slice c.p c.hs.length c.cap) := cell_keep hb1 (by go_simp)
  have l1_c : w.heap.size + 1 < w1.heap.size := by omega
  have m1_c : w.heap.size + 1 < w1.heap.size + 1 := by omega
  have HT1 := Lib.hid (HT0.out.below bb1)
  have HC1 := Lib.hid (HC0.out.below bb1)
  have HL1 := Lib.hid (HL0.out.below bb1)
  have HE1 := Lib.hid (HE0.out.below bb1)
  have BE1 := Lib.hid be1
  clear be1 bb1 hb1 HT0 HC0 HL0 HE0
  go_wp2_with fail
  refine (small_any t q l capq _ HN.out (HT1.out.below (by repeat (first | exact Below.refl _ _ | assumption | refine below_drewN ?_ _ | refine Below.setCell ?_ (by first | (simp; done) | (simp; omega)) _ | refine Below.alloc ?_ (by first | (simp; done) | (simp; omega) | omega) _ | refine Below.drew ?_ | refine Below.trans ?_ (Below.mono (by assumption) (by first | (simp; done) | (simp; omega) | omega)))))).mono ?_
  rintro e w2 ⟨rfl, hb2⟩
  rw [HS.out]
  have hz2 := hb2.size
  (try simp at hz2)
  have bb2 : Below w1.heap.size w1 w2 := (by repeat (first | exact Below.refl _ _ | assumption | refine below_drewN ?_ _ | refine Below.setCell ?_ (by first | (simp; done) | (simp; omega)) _ | refine Below.alloc ?_ (by first | (simp; done) | (simp; omega) | omega) _ | refine Below.drew ?_ | refine Below.trans ?_ (Below.mono (by assumption) (by first | (simp; done) | (simp; omega) | omega))))
  have be2 : Below w.heap.size w w2 := BE1.out.trans (bb2.mono BE1.out.size)
  have c2_t_0 : w2.cell? ⟨w.heap.size, 0, none⟩ = some (.int .i64 t.kd) := cell_keep bb2 c1_t_0
  have c2_t_1 : w2.cell? ⟨w.heap.size, 1, none⟩ = some (.int .i64 t.n) := cell_keep bb2 c1_t_1
  have c2_t_2 : w2.cell? ⟨w.heap.size, 2, none⟩ = some (.int .i64 t.ev) := cell_keep bb2 c1_t_2
  have c2_t_3 : w2.cell? ⟨w.heap.size, 3, none⟩ = some (.bool t.bz) := cell_keep bb2 c1_t_3
  have c2_t_4 : w2.cell? ⟨w.heap.size, 4, none⟩ = some (.slice t.p t.kids.length t.cap) := cell_keep bb2 c1_t_4
  have l2_t : w.heap.size < w2.heap.size := by omega
  have m2_t : w.heap.size < w2.heap.size + 1 := by omega
  have c2_c_0 : w2.cell? ⟨w.heap.size + 1, 0, none⟩ = some (.bool c.b0) := cell_keep bb2 c1_c_0
  have c2_c_1 : w2.cell? ⟨w.heap.size + 1, 1, none⟩ = some (.bool c.b1) := cell_keep bb2 c1_c_1
  have c2_c_2 : w2.cell? ⟨w.heap.size + 1, 2, none⟩ = some (.bool c.b2) := cell_keep bb2 c1_c_2
  have c2_c_3 : w2.cell? ⟨w.heap.size + 1, 3, none⟩ = some (.bool c.b3) := cell_keep bb2 c1_c_3
  have c2_c_4 : w2.cell? ⟨w.heap.size + 1, 4, none⟩ = some (.bool c.b4) := cell_keep bb2 c1_c_4
  have c2_c_5 : w2.cell? ⟨w.heap.size + 1, 5, none⟩ = some (.bool c.b5) := cell_keep bb2 c1_c_5
  have c2_c_6 : w2.cell? ⟨w.heap.size + 1, 6, none⟩ = some (.bool c.b6) := cell_keep bb2 c1_c_6
  have c2_c_7 : w2.cell? ⟨w.heap.size + 1, 7, none⟩ = some (.slice c.p c.hs.length c.cap) := cell_keep bb2 c1_c_7
  have l2_c : w.heap.size + 1 < w2.heap.size := by omega
  have m2_c : w.heap.size + 1 < w2.heap.size + 1 := by omega
  have HT2 := Lib.hid (HT1.out.below bb2)
  have HC2 := Lib.hid (HC1.out.below bb2)
  have HL2 := Lib.hid (HL1.out.below bb2)
  have HE2 := Lib.hid (HE1.out.below bb2)
  have BE2 := Lib.hid be2
  clear be2 bb2 hb2 BE1 c1_t_0 c1_t_1 c1_t_2 c1_t_3 c1_t_4 l1_t m1_t c1_c_0 c1_c_1 c1_c_2 c1_c_3 c1_c_4 c1_c_5 c1_c_6 c1_c_7 l1_c m1_c HT1 HC1 HL1 HE1
  go_wp2_with fail
  go_ret
  exact ⟨rfl, (by have q := BE2.out; repeat (first | exact q | refine Below.setCell ?_ (by first | (simp; done) | omega | (simp; omega)) _ | refine Below.alloc ?_ (by first | (simp; done) | omega | (simp; omega)) _ | refine below_drewN ?_ _ | refine Below.drew ?_))⟩
set_option maxRecDepth 100000 in
set_option maxHeartbeats 3200000 in
theorem su_e (t : Dl.T) (c : Cal) (q : Option Addr) (capq : Nat) (l : List Wh) (one two : Int) (w : World) (ht : TAt w t) (hn : LenOK t) (hc : CalIn w c) (hl : EvAt w q l) (he : Env w) (hs : smallB t l = true) (hln : l.length ≤ 40) (o0 : 0 ≤ one) (o1 : one ≤ 65535) (o2 : 0 ≤ two) (o3 : two ≤ 65535) (m n : Int) (hm : Int.tmod one 501 = m) (hm2 : one % 501 = m) (hnn : Int.tmod two 501 = n) (hnn2 : two % 501 = n) (n0 : 0 ≤ n) (n1 : n ≤ 500) (b f : Int) (kb : Bool) (ha : ∀ p1 p2, evalS (.node 4 n 0 false p1 1 [.node 4 m 0 false p2 1 [t]]) c l = (0, false, 1)) (hb : ∀ p1, evalS (.node 4 (m + n) 0 false p1 1 [t]) c l = (b, kb, f)) :
    Calls Tryd.prog 7 #[.agg #[.int .i64 t.kd, .int .i64 t.n, .int .i64 t.ev, .bool t.bz, .slice t.p t.kids.length t.cap], .agg #[.bool c.b0, .bool c.b1, .bool c.b2, .bool c.b3, .bool c.b4, .bool c.b5, .bool c.b6, .slice c.p c.hs.length c.cap], .slice q l.length capq, .int .u16 one, .int .u16 two] w fun e w' => e = .returned (.bool true) ∧ Below w.heap.size w w' := by
  have HT0 := Lib.hid ht
  clear ht
  have HC0 := Lib.hid hc
  clear hc
  have HL0 := Lib.hid hl
  clear hl
  have HE0 := Lib.hid he
  clear he
  have HN := Lib.hid hn
  clear hn
  have HW1 := Lib.hid (wrap_in (m + n) (by omega) (by omega))
  have HS := Lib.hid hs
  clear hs
  have HA := Lib.hid ha
  clear ha
  have HB := Lib.hid hb
  clear hb
  go_enter Tryd.func7, Tryd.ntmps7
  go_wp2_with fail
  refine (head_any _ (HE0.out.below (by repeat (first | exact Below.refl _ _ | assumption | refine below_drewN ?_ _ | refine Below.setCell ?_ (by first | (simp; done) | (simp; omega)) _ | refine Below.alloc ?_ (by first | (simp; done) | (simp; omega) | omega) _ | refine Below.drew ?_ | refine Below.trans ?_ (Below.mono (by assumption) (by first | (simp; done) | (simp; omega) | omega)))))).mono ?_
  rintro e w1 ⟨rfl, hb1⟩
  have hz1 := hb1.size
  (try simp at hz1)
  have bb1 : Below w.heap.size w w1 := (by repeat (first | exact Below.refl _ _ | assumption | refine below_drewN ?_ _ | refine Below.setCell ?_ (by first | (simp; done) | (simp; omega)) _ | refine Below.alloc ?_ (by first | (simp; done) | (simp; omega) | omega) _ | refine Below.drew ?_ | refine Below.trans ?_ (Below.mono (by assumption) (by first | (simp; done) | (simp; omega) | omega))))
  have be1 : Below w.heap.size w w1 := bb1
  have c1_t_0 : w1.cell? ⟨w.heap.size, 0, none⟩ = some (.int .i64 t.kd) := cell_keep hb1 (by go_simp)
  have c1_t_1 : w1.cell? ⟨w.heap.size, 1, none⟩ = some (.int .i64 t.n) := cell_keep hb1 (by go_simp)
  have c1_t_2 : w1.cell? ⟨w.heap.size, 2, none⟩ = some (.int .i64 t.ev) := cell_keep hb1 (by go_simp)
  have c1_t_3 : w1.cell? ⟨w.heap.size, 3, none⟩ = some (.bool t.bz) := cell_keep hb1 (by go_simp)
  have c1_t_4 : w1.cell? ⟨w.heap.size, 4, none⟩ = some (.slice t.p t.kids.length t.cap) := cell_keep hb1 (by go_simp)
  have l1_t : w.heap.size < w1.heap.size := by omega
  have m1_t : w.heap.size < w1.heap.size + 1 := by omega
  have c1_c_0 : w1.cell? ⟨w.heap.size + 1, 0, none⟩ = some (.bool c.b0) := cell_keep hb1 (by go_simp)
  have c1_c_1 : w1.cell? ⟨w.heap.size + 1, 1, none⟩ = some (.bool c.b1) := cell_keep hb1 (by go_simp)
  have c1_c_2 : w1.cell? ⟨w.heap.size + 1, 2, none⟩ = some (.bool c.b2) := cell_keep hb1 (by go_simp)
  have c1_c_3 : w1.cell? ⟨w.heap.size + 1, 3, none⟩ = some (.bool c.b3) := cell_keep hb1 (by go_simp)
  have c1_c_4 : w1.cell? ⟨w.heap.size + 1, 4, none⟩ = some (.bool c.b4) := cell_keep hb1 (by go_simp)
  have c1_c_5 : w1.cell? ⟨w.heap.size + 1, 5, none⟩ = some (.bool c.b5) := cell_keep hb1 (by go_simp)
  have c1_c_6 : w1.cell? ⟨w.heap.size + 1, 6, none⟩ = some (.bool c.b6) := cell_keep hb1 (by go_simp)
  have c1_c_7 : w1.cell? ⟨w.heap.size + 1, 7, none⟩ = some (.slice c.p c.hs.length c.cap) := cell_keep hb1 (by go_simp)
  have l1_c : w.heap.size + 1 < w1.heap.size := by omega
  have m1_c : w.heap.size + 1 < w1.heap.size + 1 := by omega
  have HT1 := Lib.hid (HT0.out.below bb1)
  have HC1 := Lib.hid (HC0.out.below bb1)
  have HL1 := Lib.hid (HL0.out.below bb1)
  have HE1 := Lib.hid (HE0.out.below bb1)
  have BE1 := Lib.hid be1
  clear be1 bb1 hb1 HT0 HC0 HL0 HE0
  go_wp2_with fail
  refine (small_any t q l capq _ HN.out (HT1.out.below (by repeat (first | exact Below.refl _ _ | assumption | refine below_drewN ?_ _ | refine Below.setCell ?_ (by first | (simp; done) | (simp; omega)) _ | refine Below.alloc ?_ (by first | (simp; done) | (simp; omega) | omega) _ | refine Below.drew ?_ | refine Below.trans ?_ (Below.mono (by assumption) (by first | (simp; done) | (simp; omega) | omega)))))).mono ?_
  rintro e w2 ⟨rfl, hb2⟩
  rw [HS.out]
  have hz2 := hb2.size
  (try simp at hz2)
  have bb2 : Below w1.heap.size w1 w2 := (by repeat (first | exact Below.refl _ _ | assumption | refine below_drewN ?_ _ | refine Below.setCell ?_ (by first | (simp; done) | (simp; omega)) _ | refine Below.alloc ?_ (by first | (simp; done) | (simp; omega) | omega) _ | refine Below.drew ?_ | refine Below.trans ?_ (Below.mono (by assumption) (by first | (simp; done) | (simp; omega) | omega))))
  have be2 : Below w.heap.size w w2 := BE1.out.trans (bb2.mono BE1.out.size)
  have c2_t_0 : w2.cell? ⟨w.heap.size, 0, none⟩ = some (.int .i64 t.kd) := cell_keep bb2 c1_t_0
  have c2_t_1 : w2.cell? ⟨w.heap.size, 1, none⟩ = some (.int .i64 t.n) := cell_keep bb2 c1_t_1
  have c2_t_2 : w2.cell? ⟨w.heap.size, 2, none⟩ = some (.int .i64 t.ev) := cell_keep bb2 c1_t_2
  have c2_t_3 : w2.cell? ⟨w.heap.size, 3, none⟩ = some (.bool t.bz) := cell_keep bb2 c1_t_3
  have c2_t_4 : w2.cell? ⟨w.heap.size, 4, none⟩ = some (.slice t.p t.kids.length t.cap) := cell_keep bb2 c1_t_4
  have l2_t : w.heap.size < w2.heap.size := by omega
  have m2_t : w.heap.size < w2.heap.size + 1 := by omega
  have c2_c_0 : w2.cell? ⟨w.heap.size + 1, 0, none⟩ = some (.bool c.b0) := cell_keep bb2 c1_c_0
  have c2_c_1 : w2.cell? ⟨w.heap.size + 1, 1, none⟩ = some (.bool c.b1) := cell_keep bb2 c1_c_1
  have c2_c_2 : w2.cell? ⟨w.heap.size + 1, 2, none⟩ = some (.bool c.b2) := cell_keep bb2 c1_c_2
  have c2_c_3 : w2.cell? ⟨w.heap.size + 1, 3, none⟩ = some (.bool c.b3) := cell_keep bb2 c1_c_3
  have c2_c_4 : w2.cell? ⟨w.heap.size + 1, 4, none⟩ = some (.bool c.b4) := cell_keep bb2 c1_c_4
  have c2_c_5 : w2.cell? ⟨w.heap.size + 1, 5, none⟩ = some (.bool c.b5) := cell_keep bb2 c1_c_5
  have c2_c_6 : w2.cell? ⟨w.heap.size + 1, 6, none⟩ = some (.bool c.b6) := cell_keep bb2 c1_c_6
  have c2_c_7 : w2.cell? ⟨w.heap.size + 1, 7, none⟩ = some (.slice c.p c.hs.length c.cap) := cell_keep bb2 c1_c_7
  have l2_c : w.heap.size + 1 < w2.heap.size := by omega
  have m2_c : w.heap.size + 1 < w2.heap.size + 1 := by omega
  have HT2 := Lib.hid (HT1.out.below bb2)
  have HC2 := Lib.hid (HC1.out.below bb2)
  have HL2 := Lib.hid (HL1.out.below bb2)
  have HE2 := Lib.hid (HE1.out.below bb2)
  have BE2 := Lib.hid be2
  clear be2 bb2 hb2 BE1 c1_t_0 c1_t_1 c1_t_2 c1_t_3 c1_t_4 l1_t m1_t c1_c_0 c1_c_1 c1_c_2 c1_c_3 c1_c_4 c1_c_5 c1_c_6 c1_c_7 l1_c m1_c HT1 HC1 HL1 HE1
  go_wp2_with fail
  refine wp_region_held_drew (S := (fun w' => Below w2.heap.size w2 w' ∧ ∀ b o, b < w2.heap.size → w'.cell? ⟨b, o, none⟩ = w2.cell? ⟨b, o, none⟩)) (by kernel_rfl) (holdS (Below.drew (Below.refl _ _))) (fun hHeld => ?_)
  refine wpAnyH_take (i := 0) (v := ?_) rfl (by kernel_rfl) (by kernel_rfl) (by kernel_rfl) (fun _ _ _ h => h) (Or.inl ⟨by rfl, ?hy⟩) (by assumption) ?_
  case hy =>
    intro W hSw
    (try dsimp only at hSw)
    first | (go_simp; done) | (go_simp; with_reducible rfl)
  (try simp only [List.getElem_toArray,  List.getElem_cons_zero, Act.put, List.setIfInBounds_toArray, List.set_cons_zero, List.set_cons_succ])
  refine wpAnyH_take (i := 1) (v := ?_) rfl (by kernel_rfl) (by kernel_rfl) (by kernel_rfl) (fun _ _ _ h => h) (Or.inl ⟨by rfl, ?hy⟩) (by assumption) ?_
  case hy =>
    intro W hSw
    (try dsimp only at hSw)
    first | (go_simp; done) | (go_simp; with_reducible rfl)
  (try simp only [List.getElem_toArray, List.getElem_cons_succ,  List.getElem_cons_zero, Act.put, List.setIfInBounds_toArray, List.set_cons_zero, List.set_cons_succ])
  refine wpAnyH_take (i := 2) (v := ?_) rfl (by kernel_rfl) (by kernel_rfl) (by kernel_rfl) (fun _ _ _ h => h) (Or.inl ⟨by rfl, ?hy⟩) (by assumption) ?_
  case hy =>
    intro W hSw
    (try dsimp only at hSw)
    first | (go_simp; done) | (go_simp; with_reducible rfl)
  (try simp only [List.getElem_toArray, List.getElem_cons_succ,  List.getElem_cons_zero, Act.put, List.setIfInBounds_toArray, List.set_cons_zero, List.set_cons_succ])
  refine wpAnyH_take (i := 7) (v := ?_) rfl (by kernel_rfl) (by kernel_rfl) (by kernel_rfl) (fun _ _ _ h => h) (Or.inl ⟨by rfl, ?hy⟩) (by assumption) ?_
  case hy =>
    intro W hSw
    (try dsimp only at hSw)
    first | (go_simp; done) | (go_simp; with_reducible rfl)
  (try simp only [List.getElem_toArray, List.getElem_cons_succ,  List.getElem_cons_zero, Act.put, List.setIfInBounds_toArray, List.set_cons_zero, List.set_cons_succ])
  refine wpAnyH_take (i := 8) (v := ?_) rfl (by kernel_rfl) (by kernel_rfl) (by kernel_rfl) (fun _ _ _ h => h) (Or.inl ⟨by rfl, ?hy⟩) (by assumption) ?_
  case hy =>
    intro W hSw
    (try dsimp only at hSw)
    first | (go_simp; done) | (go_simp; with_reducible rfl)
  (try simp only [List.getElem_toArray, List.getElem_cons_succ,  List.getElem_cons_zero, Act.put, List.setIfInBounds_toArray, List.set_cons_zero, List.set_cons_succ])
  refine wpAnyH_ready (rs := [3]) (by kernel_rfl) (by simp) ?_
  refine AllReadyH.cons rfl (fun K hK => ?_) AllReadyH.nil
  go_simp
  refine hK.out _ _ (holdS (by repeat (first | exact Below.refl _ _ | assumption | refine below_drewN ?_ _ | refine Below.setCell ?_ (by first | (simp; done) | (simp; omega)) _ | refine Below.alloc ?_ (by first | (simp; done) | (simp; omega) | omega) _ | refine Below.drew ?_ | refine Below.trans ?_ (Below.mono (by assumption) (by first | (simp; done) | (simp; omega) | omega))))) (fun hHeld => ?_)
  clear hK K
  obtain ⟨x1, hx1⟩ : ∃ x, x = (w2.alloc (.cells #[.int .i64 t.kd, .int .i64 t.n, .int .i64 t.ev, .bool t.bz, .slice t.p t.kids.length t.cap] 24)).drew := ⟨_, rfl⟩
  have g1 : x1.heap[w2.heap.size]? = some (.cells #[.int .i64 t.kd, .int .i64 t.n, .int .i64 t.ev, .bool t.bz, .slice t.p t.kids.length t.cap] 24 (0, 0)) := by rw [hx1]; exact World.alloc_heap_new _ _
  have bx1 : Below w2.heap.size w2 x1 := by rw [hx1]; exact (by repeat (first | exact Below.refl _ _ | assumption | refine below_drewN ?_ _ | refine Below.setCell ?_ (by first | (simp; done) | (simp; omega)) _ | refine Below.alloc ?_ (by first | (simp; done) | (simp; omega) | omega) _ | refine Below.drew ?_ | refine Below.trans ?_ (Below.mono (by assumption) (by first | (simp; done) | (simp; omega) | omega))))
  rw [← hx1] at hHeld ⊢
  clear hx1
  (try simp only [List.getElem_toArray, List.getElem_cons_succ,  List.getElem_cons_zero, Act.put, List.setIfInBounds_toArray, List.set_cons_zero, List.set_cons_succ])
  refine wpAnyH_ready (rs := [4]) (by kernel_rfl) (by simp) ?_
  refine AllReadyH.cons rfl (fun K hK => ?_) AllReadyH.nil
  go_simp
  refine (of_calls 4 m false _ 1 1 _).mono ?_
  rintro e' v1 ⟨rfl, hv1⟩
  go_wp2_with fail
  refine hK.out _ _ (holdT (by assumption) hv1) (fun hHeld => ?_)
  clear hK K
  (try simp only [List.getElem_toArray, List.getElem_cons_succ,  List.getElem_cons_zero, Act.put, List.setIfInBounds_toArray, List.set_cons_zero, List.set_cons_succ])
  have g1 := (hv1.block _ (Array.getElem?_eq_some_iff.1 g1).1).trans g1
  refine wpAnyH_ready (rs := [5]) (by kernel_rfl) (by simp) ?_
  refine AllReadyH.cons rfl (fun K hK => ?_) AllReadyH.nil
  go_simp
  refine hK.out _ _ (holdT (by assumption) (by repeat (first | exact Below.refl _ _ | assumption | refine below_drewN ?_ _ | refine Below.setCell ?_ (by first | (simp; done) | (simp; omega)) _ | refine Below.alloc ?_ (by first | (simp; done) | (simp; omega) | omega) _ | refine Below.drew ?_ | refine Below.trans ?_ (Below.mono (by assumption) (by first | (simp; done) | (simp; omega) | omega))))) (fun hHeld => ?_)
  clear hK K
  obtain ⟨x2, hx2⟩ : ∃ x, x = v1.alloc (.cells #[.int .i64 4, .int .i64 m, .int .i64 0, .bool false, .slice (some ⟨w2.heap.size, 0, none⟩) 1 1] 24) := ⟨_, rfl⟩
  have g2 : x2.heap[v1.heap.size]? = some (.cells #[.int .i64 4, .int .i64 m, .int .i64 0, .bool false, .slice (some ⟨w2.heap.size, 0, none⟩) 1 1] 24 (0, 0)) := by rw [hx2]; exact World.alloc_heap_new _ _
  have bx2 : Below v1.heap.size v1 x2 := by rw [hx2]; exact (by repeat (first | exact Below.refl _ _ | assumption | refine below_drewN ?_ _ | refine Below.setCell ?_ (by first | (simp; done) | (simp; omega)) _ | refine Below.alloc ?_ (by first | (simp; done) | (simp; omega) | omega) _ | refine Below.drew ?_ | refine Below.trans ?_ (Below.mono (by assumption) (by first | (simp; done) | (simp; omega) | omega))))
  rw [← hx2] at hHeld ⊢
  clear hx2
  (try simp only [List.getElem_toArray, List.getElem_cons_succ,  List.getElem_cons_zero, Act.put, List.setIfInBounds_toArray, List.set_cons_zero, List.set_cons_succ])
  have g1 := (bx2.block _ (Array.getElem?_eq_some_iff.1 g1).1).trans g1
  refine wpAnyH_ready (rs := [6]) (by kernel_rfl) (by simp) ?_
  refine AllReadyH.cons rfl (fun K hK => ?_) AllReadyH.nil
  go_simp
  refine (of_calls 4 n false _ 1 1 _).mono ?_
  rintro e' v2 ⟨rfl, hv2⟩
  go_wp2_with fail
  refine hK.out _ _ (holdT (by assumption) hv2) (fun hHeld => ?_)
  clear hK K
  (try simp only [List.getElem_toArray, List.getElem_cons_succ,  List.getElem_cons_zero, Act.put, List.setIfInBounds_toArray, List.set_cons_zero, List.set_cons_succ])
  have g1 := (hv2.block _ (Array.getElem?_eq_some_iff.1 g1).1).trans g1
  have g2 := (hv2.block _ (Array.getElem?_eq_some_iff.1 g2).1).trans g2
  refine wpAnyH_ready (rs := [9]) (by kernel_rfl) (by simp) ?_
  refine AllReadyH.cons rfl (fun K hK => ?_) AllReadyH.nil
  go_simp
  refine (eval_at (.node 4 n 0 false (some ⟨v1.heap.size, 0, none⟩) 1 [.node 4 m 0 false (some ⟨w2.heap.size, 0, none⟩) 1 [t]]) c q capq l _ (tat_one ⟨cell_at g2 rfl, cell_at g2 rfl, cell_at g2 rfl, cell_at g2 rfl, cell_at g2 rfl⟩ (tat_one ⟨cell_at g1 rfl, cell_at g1 rfl, cell_at g1 rfl, cell_at g1 rfl, cell_at g1 rfl⟩ (HT2.out.below hHeld.1))) (HC2.out.below hHeld.1) (HL2.out.below hHeld.1) (by omega) (HE2.out.below hHeld.1)).mono ?_
  rintro e' w3 ⟨rfl, hv3⟩
  rw [HA.out]
  simp only [R3]
  go_wp2_with fail
  refine hK.out _ _ (holdT (by assumption) hv3) (fun hHeld => ?_)
  clear hK K
  (try simp only [List.getElem_toArray, List.getElem_cons_succ,  List.getElem_cons_zero, Act.put, List.setIfInBounds_toArray, List.set_cons_zero, List.set_cons_succ])
  clear g1 g2 bx1 hv1 bx2 hv2
  refine wpAnyH_take (i := 10) (v := ?_) rfl (by kernel_rfl) (by kernel_rfl) (by kernel_rfl) (fun _ _ _ h => h) (Or.inl ⟨by rfl, ?hy⟩) (by assumption) ?_
  case hy =>
    intro W hSw
    (try dsimp only at hSw)
    first | (go_simp; done) | (go_simp; with_reducible rfl)
  (try simp only [List.getElem_toArray, List.getElem_cons_succ,  List.getElem_cons_zero, Act.put, List.setIfInBounds_toArray, List.set_cons_zero, List.set_cons_succ])
  refine wpAnyH_take (i := 11) (v := ?_) rfl (by kernel_rfl) (by kernel_rfl) (by kernel_rfl) (fun _ _ _ h => h) (Or.inl ⟨by rfl, ?hy⟩) (by assumption) ?_
  case hy =>
    intro W hSw
    (try dsimp only at hSw)
    first | (go_simp; done) | (go_simp; with_reducible rfl)
  (try simp only [List.getElem_toArray, List.getElem_cons_succ,  List.getElem_cons_zero, Act.put, List.setIfInBounds_toArray, List.set_cons_zero, List.set_cons_succ])
  refine wpAnyH_take (i := 12) (v := ?_) rfl (by kernel_rfl) (by kernel_rfl) (by kernel_rfl) (fun _ _ _ h => h) (Or.inl ⟨by rfl, ?hy⟩) (by assumption) ?_
  case hy =>
    intro W hSw
    (try dsimp only at hSw)
    first | (go_simp; done) | (go_simp; with_reducible rfl)
  (try simp only [List.getElem_toArray, List.getElem_cons_succ,  List.getElem_cons_zero, Act.put, List.setIfInBounds_toArray, List.set_cons_zero, List.set_cons_succ])
  refine wpAnyH_take (i := 13) (v := ?_) rfl (by kernel_rfl) (by kernel_rfl) (by kernel_rfl) (fun _ _ _ h => h) (Or.inl ⟨by rfl, ?hy⟩) (by assumption) ?_
  case hy =>
    intro W hSw
    (try dsimp only at hSw)
    first | (go_simp; done) | (go_simp; with_reducible rfl)
  (try simp only [List.getElem_toArray, List.getElem_cons_succ,  List.getElem_cons_zero, Act.put, List.setIfInBounds_toArray, List.set_cons_zero, List.set_cons_succ])
  refine wpAnyH_take (i := 14) (v := ?_) rfl (by kernel_rfl) (by kernel_rfl) (by kernel_rfl) (fun _ _ _ h => h) (Or.inl ⟨by rfl, ?hy⟩) (by assumption) ?_
  case hy =>
    intro W hSw
    (try dsimp only at hSw)
    first | (go_simp; done) | (go_simp; with_reducible rfl)
  (try simp only [List.getElem_toArray, List.getElem_cons_succ,  List.getElem_cons_zero, Act.put, List.setIfInBounds_toArray, List.set_cons_zero, List.set_cons_succ])
  refine wpAnyH_take (i := 15) (v := ?_) rfl (by kernel_rfl) (by kernel_rfl) (by kernel_rfl) (fun _ _ _ h => h) (Or.inl ⟨by rfl, ?hy⟩) (by assumption) ?_
  case hy =>
    intro W hSw
    (try dsimp only at hSw)
    first | (go_simp; done) | (go_simp; with_reducible rfl)
  (try simp only [List.getElem_toArray, List.getElem_cons_succ,  List.getElem_cons_zero, Act.put, List.setIfInBounds_toArray, List.set_cons_zero, List.set_cons_succ])
  refine wpAnyH_take (i := 16) (v := ?_) rfl (by kernel_rfl) (by kernel_rfl) (by kernel_rfl) (fun _ _ _ h => h) (Or.inl ⟨by rfl, ?hy⟩) (by assumption) ?_
  case hy =>
    intro W hSw
    (try dsimp only at hSw)
    first | (go_simp; done) | (go_simp; with_reducible rfl)
  (try simp only [List.getElem_toArray, List.getElem_cons_succ,  List.getElem_cons_zero, Act.put, List.setIfInBounds_toArray, List.set_cons_zero, List.set_cons_succ])
  refine wpAnyH_done (by kernel_rfl) ?_ _
  have bb3 : Below w2.heap.size w2 w3 := hHeld.1
  have hz3 := bb3.size
  clear hHeld hv3
  have be3 : Below w.heap.size w w3 := BE2.out.trans (bb3.mono BE2.out.size)
  have c3_t_0 : w3.cell? ⟨w.heap.size, 0, none⟩ = some (.int .i64 t.kd) := cell_keep bb3 c2_t_0
  have c3_t_1 : w3.cell? ⟨w.heap.size, 1, none⟩ = some (.int .i64 t.n) := cell_keep bb3 c2_t_1
  have c3_t_2 : w3.cell? ⟨w.heap.size, 2, none⟩ = some (.int .i64 t.ev) := cell_keep bb3 c2_t_2
  have c3_t_3 : w3.cell? ⟨w.heap.size, 3, none⟩ = some (.bool t.bz) := cell_keep bb3 c2_t_3
  have c3_t_4 : w3.cell? ⟨w.heap.size, 4, none⟩ = some (.slice t.p t.kids.length t.cap) := cell_keep bb3 c2_t_4
  have l3_t : w.heap.size < w3.heap.size := by omega
  have m3_t : w.heap.size < w3.heap.size + 1 := by omega
  have c3_c_0 : w3.cell? ⟨w.heap.size + 1, 0, none⟩ = some (.bool c.b0) := cell_keep bb3 c2_c_0
  have c3_c_1 : w3.cell? ⟨w.heap.size + 1, 1, none⟩ = some (.bool c.b1) := cell_keep bb3 c2_c_1
  have c3_c_2 : w3.cell? ⟨w.heap.size + 1, 2, none⟩ = some (.bool c.b2) := cell_keep bb3 c2_c_2
  have c3_c_3 : w3.cell? ⟨w.heap.size + 1, 3, none⟩ = some (.bool c.b3) := cell_keep bb3 c2_c_3
  have c3_c_4 : w3.cell? ⟨w.heap.size + 1, 4, none⟩ = some (.bool c.b4) := cell_keep bb3 c2_c_4
  have c3_c_5 : w3.cell? ⟨w.heap.size + 1, 5, none⟩ = some (.bool c.b5) := cell_keep bb3 c2_c_5
  have c3_c_6 : w3.cell? ⟨w.heap.size + 1, 6, none⟩ = some (.bool c.b6) := cell_keep bb3 c2_c_6
  have c3_c_7 : w3.cell? ⟨w.heap.size + 1, 7, none⟩ = some (.slice c.p c.hs.length c.cap) := cell_keep bb3 c2_c_7
  have l3_c : w.heap.size + 1 < w3.heap.size := by omega
  have m3_c : w.heap.size + 1 < w3.heap.size + 1 := by omega
  have HT3 := Lib.hid (HT2.out.below bb3)
  have HC3 := Lib.hid (HC2.out.below bb3)
  have HL3 := Lib.hid (HL2.out.below bb3)
  have HE3 := Lib.hid (HE2.out.below bb3)
  have BE3 := Lib.hid be3
  clear be3 bb3 BE2 c2_t_0 c2_t_1 c2_t_2 c2_t_3 c2_t_4 l2_t m2_t c2_c_0 c2_c_1 c2_c_2 c2_c_3 c2_c_4 c2_c_5 c2_c_6 c2_c_7 l2_c m2_c HT2 HC2 HL2 HE2
  go_wp2_with fail
  refine wp_region_held_drew (S := (fun w' => Below w3.heap.size w3 w' ∧ ∀ b o, b < w3.heap.size → w'.cell? ⟨b, o, none⟩ = w3.cell? ⟨b, o, none⟩)) (by kernel_rfl) (holdS (Below.drew (Below.refl _ _))) (fun hHeld => ?_)
  refine wpAnyH_take (i := 0) (v := ?_) rfl (by kernel_rfl) (by kernel_rfl) (by kernel_rfl) (fun _ _ _ h => h) (Or.inl ⟨by rfl, ?hy⟩) (by assumption) ?_
  case hy =>
    intro W hSw
    (try dsimp only at hSw)
    first | (go_simp; done) | (go_simp; with_reducible rfl)
  (try simp only [List.getElem_toArray,  List.getElem_cons_zero, Act.put, List.setIfInBounds_toArray, List.set_cons_zero, List.set_cons_succ])
  refine wpAnyH_take (i := 1) (v := ?_) rfl (by kernel_rfl) (by kernel_rfl) (by kernel_rfl) (fun _ _ _ h => h) (Or.inl ⟨by rfl, ?hy⟩) (by assumption) ?_
  case hy =>
    intro W hSw
    (try dsimp only at hSw)
    first | (go_simp; done) | (go_simp; with_reducible rfl)
  (try simp only [List.getElem_toArray, List.getElem_cons_succ,  List.getElem_cons_zero, Act.put, List.setIfInBounds_toArray, List.set_cons_zero, List.set_cons_succ])
  refine wpAnyH_take (i := 2) (v := ?_) rfl (by kernel_rfl) (by kernel_rfl) (by kernel_rfl) (fun _ _ _ h => h) (Or.inl ⟨by rfl, ?hy⟩) (by assumption) ?_
  case hy =>
    intro W hSw
    (try dsimp only at hSw)
    first | (go_simp; done) | (go_simp; with_reducible rfl)
  (try simp only [List.getElem_toArray, List.getElem_cons_succ,  List.getElem_cons_zero, Act.put, List.setIfInBounds_toArray, List.set_cons_zero, List.set_cons_succ])
  refine wpAnyH_take (i := 3) (v := ?_) rfl (by kernel_rfl) (by kernel_rfl) (by kernel_rfl) (fun _ _ _ h => h) (Or.inl ⟨by rfl, ?hy⟩) (by assumption) ?_
  case hy =>
    intro W hSw
    (try dsimp only at hSw)
    first | (go_simp; done) | (go_simp; with_reducible rfl)
  (try simp only [List.getElem_toArray, List.getElem_cons_succ,  List.getElem_cons_zero, Act.put, List.setIfInBounds_toArray, List.set_cons_zero, List.set_cons_succ])
  refine wpAnyH_take (i := 6) (v := ?_) rfl (by kernel_rfl) (by kernel_rfl) (by kernel_rfl) (fun _ _ _ h => h) (Or.inl ⟨by rfl, ?hy⟩) (by assumption) ?_
  case hy =>
    intro W hSw
    (try dsimp only at hSw)
    first | (go_simp; done) | (go_simp; with_reducible rfl)
  (try simp only [List.getElem_toArray, List.getElem_cons_succ,  List.getElem_cons_zero, Act.put, List.setIfInBounds_toArray, List.set_cons_zero, List.set_cons_succ])
  refine wpAnyH_take (i := 7) (v := ?_) rfl (by kernel_rfl) (by kernel_rfl) (by kernel_rfl) (fun _ _ _ h => h) (Or.inl ⟨by rfl, ?hy⟩) (by assumption) ?_
  case hy =>
    intro W hSw
    (try dsimp only at hSw)
    first | (go_simp; done) | (go_simp; with_reducible rfl)
  (try simp only [List.getElem_toArray, List.getElem_cons_succ,  List.getElem_cons_zero, Act.put, List.setIfInBounds_toArray, List.set_cons_zero, List.set_cons_succ])
  refine wpAnyH_ready (rs := [4]) (by kernel_rfl) (by simp) ?_
  refine AllReadyH.cons rfl (fun K hK => ?_) AllReadyH.nil
  go_simp
  refine hK.out _ _ (holdS (by repeat (first | exact Below.refl _ _ | assumption | refine below_drewN ?_ _ | refine Below.setCell ?_ (by first | (simp; done) | (simp; omega)) _ | refine Below.alloc ?_ (by first | (simp; done) | (simp; omega) | omega) _ | refine Below.drew ?_ | refine Below.trans ?_ (Below.mono (by assumption) (by first | (simp; done) | (simp; omega) | omega))))) (fun hHeld => ?_)
  clear hK K
  obtain ⟨x1, hx1⟩ : ∃ x, x = (w3.alloc (.cells #[.int .i64 t.kd, .int .i64 t.n, .int .i64 t.ev, .bool t.bz, .slice t.p t.kids.length t.cap] 24)).drew := ⟨_, rfl⟩
  have g1 : x1.heap[w3.heap.size]? = some (.cells #[.int .i64 t.kd, .int .i64 t.n, .int .i64 t.ev, .bool t.bz, .slice t.p t.kids.length t.cap] 24 (0, 0)) := by rw [hx1]; exact World.alloc_heap_new _ _
  have bx1 : Below w3.heap.size w3 x1 := by rw [hx1]; exact (by repeat (first | exact Below.refl _ _ | assumption | refine below_drewN ?_ _ | refine Below.setCell ?_ (by first | (simp; done) | (simp; omega)) _ | refine Below.alloc ?_ (by first | (simp; done) | (simp; omega) | omega) _ | refine Below.drew ?_ | refine Below.trans ?_ (Below.mono (by assumption) (by first | (simp; done) | (simp; omega) | omega))))
  rw [← hx1] at hHeld ⊢
  clear hx1
  (try simp only [List.getElem_toArray, List.getElem_cons_succ,  List.getElem_cons_zero, Act.put, List.setIfInBounds_toArray, List.set_cons_zero, List.set_cons_succ])
  refine wpAnyH_ready (rs := [5]) (by kernel_rfl) (by simp) ?_
  refine AllReadyH.cons rfl (fun K hK => ?_) AllReadyH.nil
  go_simp
  simp only [HW1.out]
  refine (of_calls 4 (m + n) false _ 1 1 _).mono ?_
  rintro e' v1 ⟨rfl, hv1⟩
  go_wp2_with fail
  refine hK.out _ _ (holdT (by assumption) hv1) (fun hHeld => ?_)
  clear hK K
  (try simp only [List.getElem_toArray, List.getElem_cons_succ,  List.getElem_cons_zero, Act.put, List.setIfInBounds_toArray, List.set_cons_zero, List.set_cons_succ])
  have g1 := (hv1.block _ (Array.getElem?_eq_some_iff.1 g1).1).trans g1
  refine wpAnyH_ready (rs := [8]) (by kernel_rfl) (by simp) ?_
  refine AllReadyH.cons rfl (fun K hK => ?_) AllReadyH.nil
  go_simp
  refine (eval_at (.node 4 (m + n) 0 false (some ⟨w3.heap.size, 0, none⟩) 1 [t]) c q capq l _ (tat_one ⟨cell_at g1 rfl, cell_at g1 rfl, cell_at g1 rfl, cell_at g1 rfl, cell_at g1 rfl⟩ (HT3.out.below hHeld.1)) (HC3.out.below hHeld.1) (HL3.out.below hHeld.1) (by omega) (HE3.out.below hHeld.1)).mono ?_
  rintro e' w4 ⟨rfl, hv2⟩
  rw [HB.out]
  simp only [R3]
  go_wp2_with fail
  refine hK.out _ _ (holdT (by assumption) hv2) (fun hHeld => ?_)
  clear hK K
  (try simp only [List.getElem_toArray, List.getElem_cons_succ,  List.getElem_cons_zero, Act.put, List.setIfInBounds_toArray, List.set_cons_zero, List.set_cons_succ])
  clear g1 bx1 hv1
  refine wpAnyH_take (i := 9) (v := ?_) rfl (by kernel_rfl) (by kernel_rfl) (by kernel_rfl) (fun _ _ _ h => h) (Or.inl ⟨by rfl, ?hy⟩) (by assumption) ?_
  case hy =>
    intro W hSw
    (try dsimp only at hSw)
    first | (go_simp; done) | (go_simp; with_reducible rfl)
  (try simp only [List.getElem_toArray, List.getElem_cons_succ,  List.getElem_cons_zero, Act.put, List.setIfInBounds_toArray, List.set_cons_zero, List.set_cons_succ])
  refine wpAnyH_take (i := 10) (v := ?_) rfl (by kernel_rfl) (by kernel_rfl) (by kernel_rfl) (fun _ _ _ h => h) (Or.inl ⟨by rfl, ?hy⟩) (by assumption) ?_
  case hy =>
    intro W hSw
    (try dsimp only at hSw)
    first | (go_simp; done) | (go_simp; with_reducible rfl)
  (try simp only [List.getElem_toArray, List.getElem_cons_succ,  List.getElem_cons_zero, Act.put, List.setIfInBounds_toArray, List.set_cons_zero, List.set_cons_succ])
  refine wpAnyH_take (i := 11) (v := ?_) rfl (by kernel_rfl) (by kernel_rfl) (by kernel_rfl) (fun _ _ _ h => h) (Or.inl ⟨by rfl, ?hy⟩) (by assumption) ?_
  case hy =>
    intro W hSw
    (try dsimp only at hSw)
    first | (go_simp; done) | (go_simp; with_reducible rfl)
  (try simp only [List.getElem_toArray, List.getElem_cons_succ,  List.getElem_cons_zero, Act.put, List.setIfInBounds_toArray, List.set_cons_zero, List.set_cons_succ])
  refine wpAnyH_take (i := 12) (v := ?_) rfl (by kernel_rfl) (by kernel_rfl) (by kernel_rfl) (fun _ _ _ h => h) (Or.inl ⟨by rfl, ?hy⟩) (by assumption) ?_
  case hy =>
    intro W hSw
    (try dsimp only at hSw)
    first | (go_simp; done) | (go_simp; with_reducible rfl)
  (try simp only [List.getElem_toArray, List.getElem_cons_succ,  List.getElem_cons_zero, Act.put, List.setIfInBounds_toArray, List.set_cons_zero, List.set_cons_succ])
  refine wpAnyH_take (i := 13) (v := ?_) rfl (by kernel_rfl) (by kernel_rfl) (by kernel_rfl) (fun _ _ _ h => h) (Or.inl ⟨by rfl, ?hy⟩) (by assumption) ?_
  case hy =>
    intro W hSw
    (try dsimp only at hSw)
    first | (go_simp; done) | (go_simp; with_reducible rfl)
  (try simp only [List.getElem_toArray, List.getElem_cons_succ,  List.getElem_cons_zero, Act.put, List.setIfInBounds_toArray, List.set_cons_zero, List.set_cons_succ])
  refine wpAnyH_take (i := 14) (v := ?_) rfl (by kernel_rfl) (by kernel_rfl) (by kernel_rfl) (fun _ _ _ h => h) (Or.inl ⟨by rfl, ?hy⟩) (by assumption) ?_
  case hy =>
    intro W hSw
    (try dsimp only at hSw)
    first | (go_simp; done) | (go_simp; with_reducible rfl)
  (try simp only [List.getElem_toArray, List.getElem_cons_succ,  List.getElem_cons_zero, Act.put, List.setIfInBounds_toArray, List.set_cons_zero, List.set_cons_succ])
  refine wpAnyH_take (i := 15) (v := ?_) rfl (by kernel_rfl) (by kernel_rfl) (by kernel_rfl) (fun _ _ _ h => h) (Or.inl ⟨by rfl, ?hy⟩) (by assumption) ?_
  case hy =>
    intro W hSw
    (try dsimp only at hSw)
    first | (go_simp; done) | (go_simp; with_reducible rfl)
  (try simp only [List.getElem_toArray, List.getElem_cons_succ,  List.getElem_cons_zero, Act.put, List.setIfInBounds_toArray, List.set_cons_zero, List.set_cons_succ])
  refine wpAnyH_done (by kernel_rfl) ?_ _
  have bb4 : Below w3.heap.size w3 w4 := hHeld.1
  have hz4 := bb4.size
  clear hHeld hv2
  have be4 : Below w.heap.size w w4 := BE3.out.trans (bb4.mono BE3.out.size)
  have c4_t_0 : w4.cell? ⟨w.heap.size, 0, none⟩ = some (.int .i64 t.kd) := cell_keep bb4 c3_t_0
  have c4_t_1 : w4.cell? ⟨w.heap.size, 1, none⟩ = some (.int .i64 t.n) := cell_keep bb4 c3_t_1
  have c4_t_2 : w4.cell? ⟨w.heap.size, 2, none⟩ = some (.int .i64 t.ev) := cell_keep bb4 c3_t_2
  have c4_t_3 : w4.cell? ⟨w.heap.size, 3, none⟩ = some (.bool t.bz) := cell_keep bb4 c3_t_3
  have c4_t_4 : w4.cell? ⟨w.heap.size, 4, none⟩ = some (.slice t.p t.kids.length t.cap) := cell_keep bb4 c3_t_4
  have l4_t : w.heap.size < w4.heap.size := by omega
  have m4_t : w.heap.size < w4.heap.size + 1 := by omega
  have c4_c_0 : w4.cell? ⟨w.heap.size + 1, 0, none⟩ = some (.bool c.b0) := cell_keep bb4 c3_c_0
  have c4_c_1 : w4.cell? ⟨w.heap.size + 1, 1, none⟩ = some (.bool c.b1) := cell_keep bb4 c3_c_1
  have c4_c_2 : w4.cell? ⟨w.heap.size + 1, 2, none⟩ = some (.bool c.b2) := cell_keep bb4 c3_c_2
  have c4_c_3 : w4.cell? ⟨w.heap.size + 1, 3, none⟩ = some (.bool c.b3) := cell_keep bb4 c3_c_3
  have c4_c_4 : w4.cell? ⟨w.heap.size + 1, 4, none⟩ = some (.bool c.b4) := cell_keep bb4 c3_c_4
  have c4_c_5 : w4.cell? ⟨w.heap.size + 1, 5, none⟩ = some (.bool c.b5) := cell_keep bb4 c3_c_5
  have c4_c_6 : w4.cell? ⟨w.heap.size + 1, 6, none⟩ = some (.bool c.b6) := cell_keep bb4 c3_c_6
  have c4_c_7 : w4.cell? ⟨w.heap.size + 1, 7, none⟩ = some (.slice c.p c.hs.length c.cap) := cell_keep bb4 c3_c_7
  have l4_c : w.heap.size + 1 < w4.heap.size := by omega
  have m4_c : w.heap.size + 1 < w4.heap.size + 1 := by omega
  have HT4 := Lib.hid (HT3.out.below bb4)
  have HC4 := Lib.hid (HC3.out.below bb4)
  have HL4 := Lib.hid (HL3.out.below bb4)
  have HE4 := Lib.hid (HE3.out.below bb4)
  have BE4 := Lib.hid be4
  clear be4 bb4 BE3 c3_t_0 c3_t_1 c3_t_2 c3_t_3 c3_t_4 l3_t m3_t c3_c_0 c3_c_1 c3_c_2 c3_c_3 c3_c_4 c3_c_5 c3_c_6 c3_c_7 l3_c m3_c HT3 HC3 HL3 HE3
  go_wp2_with fail
  go_ret
  exact ⟨rfl, (by have q := BE4.out; repeat (first | exact q | refine Below.setCell ?_ (by first | (simp; done) | omega | (simp; omega)) _ | refine Below.alloc ?_ (by first | (simp; done) | omega | (simp; omega)) _ | refine below_drewN ?_ _ | refine Below.drew ?_))⟩
set_option maxRecDepth 100000 in
set_option maxHeartbeats 6400000 in
theorem su_go (t : Dl.T) (c : Cal) (q : Option Addr) (capq : Nat) (l : List Wh) (one two : Int) (w : World) (ht : TAt w t) (hn : LenOK t) (hc : CalIn w c) (hl : EvAt w q l) (he : Env w) (hs : smallB t l = true) (hln : l.length ≤ 40) (o0 : 0 ≤ one) (o1 : one ≤ 65535) (o2 : 0 ≤ two) (o3 : two ≤ 65535) (m n : Int) (hm : Int.tmod one 501 = m) (hm2 : one % 501 = m) (hnn : Int.tmod two 501 = n) (hnn2 : two % 501 = n) (n0 : 0 ≤ n) (n1 : n ≤ 500) (a e x g y h p i : Int) (ke kx ky is : Bool) (he1 : (e == 1) = false) (ha : ∀ p1 p2, evalS (.node 4 n 0 false p1 1 [.node 4 m 0 false p2 1 [t]]) c l = (a, ke, e)) (hb : ∀ p1, evalS (.node 4 (m + n) 0 false p1 1 [t]) c l = (a, ke, e)) (hd : ∀ p1 p2 p3, evalS (.node 4 (n + 1) 0 true p1 1 [.node 4 m 0 true p2 1 [.node 6 0 0 false p3 1 [t]]]) c l = (x, kx, g)) (hf : ∀ p1 p2, evalS (.node 4 (m + n + 1) 0 true p1 1 [.node 6 0 0 false p2 1 [t]]) c l = (y, ky, h)) (hg : ∀ p1, evalS (.node 4 0 0 true p1 1 [t]) c l = (p, is, i)) (hh : ∀ p1, evalS (.node 6 0 0 false p1 1 [t]) c l = (p, is, i)) (hx1 : g = 1 ∨ ((g != 1) = true ∧ ¬ m + n < 1000) ∨ ((g != 1) = true ∧ m + n < 1000 ∧ h = g ∧ y = x)) (hx2 : i = 2 ∨ (i = 0 ∧ is = false ∧ e = 0 ∧ ke = false) ∨ (i = 0 ∧ is = true ∧ e = 0 ∧ ke = true ∧ FB c p = true) ∨ (i = 0 ∧ is = true ∧ e = 2 ∧ ke = false ∧ FB c p = true)) :
    Calls Tryd.prog 7 #[.agg #[.int .i64 t.kd, .int .i64 t.n, .int .i64 t.ev, .bool t.bz, .slice t.p t.kids.length t.cap], .agg #[.bool c.b0, .bool c.b1, .bool c.b2, .bool c.b3, .bool c.b4, .bool c.b5, .bool c.b6, .slice c.p c.hs.length c.cap], .slice q l.length capq, .int .u16 one, .int .u16 two] w fun e w' => e = .returned (.bool true) ∧ Below w.heap.size w w' := by
  have HT0 := Lib.hid ht
  clear ht
  have HC0 := Lib.hid hc
  clear hc
  have HL0 := Lib.hid hl
  clear hl
  have HE0 := Lib.hid he
  clear he
  have HN := Lib.hid hn
  clear hn
  have HW1 := Lib.hid (wrap_in (m + n) (by omega) (by omega))
  have HW2 := Lib.hid (wrap_in (n + 1) (by omega) (by omega))
  have HW3 := Lib.hid (wrap_in (m + n + 1) (by omega) (by omega))
  have HS := Lib.hid hs
  clear hs
  have HA := Lib.hid ha
  clear ha
  have HB := Lib.hid hb
  clear hb
  have HD := Lib.hid hd
  clear hd
  have HF := Lib.hid hf
  clear hf
  have HG := Lib.hid hg
  clear hg
  have HH := Lib.hid hh
  clear hh
  have HX1 := Lib.hid hx1
  clear hx1
  have HX2 := Lib.hid hx2
  clear hx2
  go_enter Tryd.func7, Tryd.ntmps7
  go_wp2_with fail
  refine (head_any _ (HE0.out.below (by repeat (first | exact Below.refl _ _ | assumption | refine below_drewN ?_ _ | refine Below.setCell ?_ (by first | (simp; done) | (simp; omega)) _ | refine Below.alloc ?_ (by first | (simp; done) | (simp; omega) | omega) _ | refine Below.drew ?_ | refine Below.trans ?_ (Below.mono (by assumption) (by first | (simp; done) | (simp; omega) | omega)))))).mono ?_
  rintro e w1 ⟨rfl, hb1⟩
  have hz1 := hb1.size
  (try simp at hz1)
  have bb1 : Below w.heap.size w w1 := (by repeat (first | exact Below.refl _ _ | assumption | refine below_drewN ?_ _ | refine Below.setCell ?_ (by first | (simp; done) | (simp; omega)) _ | refine Below.alloc ?_ (by first | (simp; done) | (simp; omega) | omega) _ | refine Below.drew ?_ | refine Below.trans ?_ (Below.mono (by assumption) (by first | (simp; done) | (simp; omega) | omega))))
  have be1 : Below w.heap.size w w1 := bb1
  have c1_t_0 : w1.cell? ⟨w.heap.size, 0, none⟩ = some (.int .i64 t.kd) := cell_keep hb1 (by go_simp)
  have c1_t_1 : w1.cell? ⟨w.heap.size, 1, none⟩ = some (.int .i64 t.n) := cell_keep hb1 (by go_simp)
  have c1_t_2 : w1.cell? ⟨w.heap.size, 2, none⟩ = some (.int .i64 t.ev) := cell_keep hb1 (by go_simp)
  have c1_t_3 : w1.cell? ⟨w.heap.size, 3, none⟩ = some (.bool t.bz) := cell_keep hb1 (by go_simp)
  have c1_t_4 : w1.cell? ⟨w.heap.size, 4, none⟩ = some (.slice t.p t.kids.length t.cap) := cell_keep hb1 (by go_simp)
  have l1_t : w.heap.size < w1.heap.size := by omega
  have m1_t : w.heap.size < w1.heap.size + 1 := by omega
  have c1_c_0 : w1.cell? ⟨w.heap.size + 1, 0, none⟩ = some (.bool c.b0) := cell_keep hb1 (by go_simp)
  have c1_c_1 : w1.cell? ⟨w.heap.size + 1, 1, none⟩ = some (.bool c.b1) := cell_keep hb1 (by go_simp)
  have c1_c_2 : w1.cell? ⟨w.heap.size + 1, 2, none⟩ = some (.bool c.b2) := cell_keep hb1 (by go_simp)
  have c1_c_3 : w1.cell? ⟨w.heap.size + 1, 3, none⟩ = some (.bool c.b3) := cell_keep hb1 (by go_simp)
  have c1_c_4 : w1.cell? ⟨w.heap.size + 1, 4, none⟩ = some (.bool c.b4) := cell_keep hb1 (by go_simp)
  have c1_c_5 : w1.cell? ⟨w.heap.size + 1, 5, none⟩ = some (.bool c.b5) := cell_keep hb1 (by go_simp)
  have c1_c_6 : w1.cell? ⟨w.heap.size + 1, 6, none⟩ = some (.bool c.b6) := cell_keep hb1 (by go_simp)
  have c1_c_7 : w1.cell? ⟨w.heap.size + 1, 7, none⟩ = some (.slice c.p c.hs.length c.cap) := cell_keep hb1 (by go_simp)
  have l1_c : w.heap.size + 1 < w1.heap.size := by omega
  have m1_c : w.heap.size + 1 < w1.heap.size + 1 := by omega
  have HT1 := Lib.hid (HT0.out.below bb1)
  have HC1 := Lib.hid (HC0.out.below bb1)
  have HL1 := Lib.hid (HL0.out.below bb1)
  have HE1 := Lib.hid (HE0.out.below bb1)
  have BE1 := Lib.hid be1
  clear be1 bb1 hb1 HT0 HC0 HL0 HE0
  go_wp2_with fail
  refine (small_any t q l capq _ HN.out (HT1.out.below (by repeat (first | exact Below.refl _ _ | assumption | refine below_drewN ?_ _ | refine Below.setCell ?_ (by first | (simp; done) | (simp; omega)) _ | refine Below.alloc ?_ (by first | (simp; done) | (simp; omega) | omega) _ | refine Below.drew ?_ | refine Below.trans ?_ (Below.mono (by assumption) (by first | (simp; done) | (simp; omega) | omega)))))).mono ?_
  rintro e w2 ⟨rfl, hb2⟩
  rw [HS.out]
  have hz2 := hb2.size
  (try simp at hz2)
  have bb2 : Below w1.heap.size w1 w2 := (by repeat (first | exact Below.refl _ _ | assumption | refine below_drewN ?_ _ | refine Below.setCell ?_ (by first | (simp; done) | (simp; omega)) _ | refine Below.alloc ?_ (by first | (simp; done) | (simp; omega) | omega) _ | refine Below.drew ?_ | refine Below.trans ?_ (Below.mono (by assumption) (by first | (simp; done) | (simp; omega) | omega))))
  have be2 : Below w.heap.size w w2 := BE1.out.trans (bb2.mono BE1.out.size)
  have c2_t_0 : w2.cell? ⟨w.heap.size, 0, none⟩ = some (.int .i64 t.kd) := cell_keep bb2 c1_t_0
  have c2_t_1 : w2.cell? ⟨w.heap.size, 1, none⟩ = some (.int .i64 t.n) := cell_keep bb2 c1_t_1
  have c2_t_2 : w2.cell? ⟨w.heap.size, 2, none⟩ = some (.int .i64 t.ev) := cell_keep bb2 c1_t_2
  have c2_t_3 : w2.cell? ⟨w.heap.size, 3, none⟩ = some (.bool t.bz) := cell_keep bb2 c1_t_3
  have c2_t_4 : w2.cell? ⟨w.heap.size, 4, none⟩ = some (.slice t.p t.kids.length t.cap) := cell_keep bb2 c1_t_4
  have l2_t : w.heap.size < w2.heap.size := by omega
  have m2_t : w.heap.size < w2.heap.size + 1 := by omega
  have c2_c_0 : w2.cell? ⟨w.heap.size + 1, 0, none⟩ = some (.bool c.b0) := cell_keep bb2 c1_c_0
  have c2_c_1 : w2.cell? ⟨w.heap.size + 1, 1, none⟩ = some (.bool c.b1) := cell_keep bb2 c1_c_1
  have c2_c_2 : w2.cell? ⟨w.heap.size + 1, 2, none⟩ = some (.bool c.b2) := cell_keep bb2 c1_c_2
  have c2_c_3 : w2.cell? ⟨w.heap.size + 1, 3, none⟩ = some (.bool c.b3) := cell_keep bb2 c1_c_3
  have c2_c_4 : w2.cell? ⟨w.heap.size + 1, 4, none⟩ = some (.bool c.b4) := cell_keep bb2 c1_c_4
  have c2_c_5 : w2.cell? ⟨w.heap.size + 1, 5, none⟩ = some (.bool c.b5) := cell_keep bb2 c1_c_5
  have c2_c_6 : w2.cell? ⟨w.heap.size + 1, 6, none⟩ = some (.bool c.b6) := cell_keep bb2 c1_c_6
  have c2_c_7 : w2.cell? ⟨w.heap.size + 1, 7, none⟩ = some (.slice c.p c.hs.length c.cap) := cell_keep bb2 c1_c_7
  have l2_c : w.heap.size + 1 < w2.heap.size := by omega
  have m2_c : w.heap.size + 1 < w2.heap.size + 1 := by omega
  have HT2 := Lib.hid (HT1.out.below bb2)
  have HC2 := Lib.hid (HC1.out.below bb2)
  have HL2 := Lib.hid (HL1.out.below bb2)
  have HE2 := Lib.hid (HE1.out.below bb2)
  have BE2 := Lib.hid be2
  clear be2 bb2 hb2 BE1 c1_t_0 c1_t_1 c1_t_2 c1_t_3 c1_t_4 l1_t m1_t c1_c_0 c1_c_1 c1_c_2 c1_c_3 c1_c_4 c1_c_5 c1_c_6 c1_c_7 l1_c m1_c HT1 HC1 HL1 HE1
  go_wp2_with fail
  refine wp_region_held_drew (S := (fun w' => Below w2.heap.size w2 w' ∧ ∀ b o, b < w2.heap.size → w'.cell? ⟨b, o, none⟩ = w2.cell? ⟨b, o, none⟩)) (by kernel_rfl) (holdS (Below.drew (Below.refl _ _))) (fun hHeld => ?_)
  refine wpAnyH_take (i := 0) (v := ?_) rfl (by kernel_rfl) (by kernel_rfl) (by kernel_rfl) (fun _ _ _ h => h) (Or.inl ⟨by rfl, ?hy⟩) (by assumption) ?_
  case hy =>
    intro W hSw
    (try dsimp only at hSw)
    first | (go_simp; done) | (go_simp; with_reducible rfl)
  (try simp only [List.getElem_toArray,  List.getElem_cons_zero, Act.put, List.setIfInBounds_toArray, List.set_cons_zero, List.set_cons_succ])
  refine wpAnyH_take (i := 1) (v := ?_) rfl (by kernel_rfl) (by kernel_rfl) (by kernel_rfl) (fun _ _ _ h => h) (Or.inl ⟨by rfl, ?hy⟩) (by assumption) ?_
  case hy =>
    intro W hSw
    (try dsimp only at hSw)
    first | (go_simp; done) | (go_simp; with_reducible rfl)
  (try simp only [List.getElem_toArray, List.getElem_cons_succ,  List.getElem_cons_zero, Act.put, List.setIfInBounds_toArray, List.set_cons_zero, List.set_cons_succ])
  refine wpAnyH_take (i := 2) (v := ?_) rfl (by kernel_rfl) (by kernel_rfl) (by kernel_rfl) (fun _ _ _ h => h) (Or.inl ⟨by rfl, ?hy⟩) (by assumption) ?_
  case hy =>
    intro W hSw
    (try dsimp only at hSw)
    first | (go_simp; done) | (go_simp; with_reducible rfl)
  (try simp only [List.getElem_toArray, List.getElem_cons_succ,  List.getElem_cons_zero, Act.put, List.setIfInBounds_toArray, List.set_cons_zero, List.set_cons_succ])
  refine wpAnyH_take (i := 7) (v := ?_) rfl (by kernel_rfl) (by kernel_rfl) (by kernel_rfl) (fun _ _ _ h => h) (Or.inl ⟨by rfl, ?hy⟩) (by assumption) ?_
  case hy =>
    intro W hSw
    (try dsimp only at hSw)
    first | (go_simp; done) | (go_simp; with_reducible rfl)
  (try simp only [List.getElem_toArray, List.getElem_cons_succ,  List.getElem_cons_zero, Act.put, List.setIfInBounds_toArray, List.set_cons_zero, List.set_cons_succ])
  refine wpAnyH_take (i := 8) (v := ?_) rfl (by kernel_rfl) (by kernel_rfl) (by kernel_rfl) (fun _ _ _ h => h) (Or.inl ⟨by rfl, ?hy⟩) (by assumption) ?_
  case hy =>
    intro W hSw
    (try dsimp only at hSw)
    first | (go_simp; done) | (go_simp; with_reducible rfl)
  (try simp only [List.getElem_toArray, List.getElem_cons_succ,  List.getElem_cons_zero, Act.put, List.setIfInBounds_toArray, List.set_cons_zero, List.set_cons_succ])
  refine wpAnyH_ready (rs := [3]) (by kernel_rfl) (by simp) ?_
  refine AllReadyH.cons rfl (fun K hK => ?_) AllReadyH.nil
  go_simp
  refine hK.out _ _ (holdS (by repeat (first | exact Below.refl _ _ | assumption | refine below_drewN ?_ _ | refine Below.setCell ?_ (by first | (simp; done) | (simp; omega)) _ | refine Below.alloc ?_ (by first | (simp; done) | (simp; omega) | omega) _ | refine Below.drew ?_ | refine Below.trans ?_ (Below.mono (by assumption) (by first | (simp; done) | (simp; omega) | omega))))) (fun hHeld => ?_)
  clear hK K
  obtain ⟨x1, hx1⟩ : ∃ x, x = (w2.alloc (.cells #[.int .i64 t.kd, .int .i64 t.n, .int .i64 t.ev, .bool t.bz, .slice t.p t.kids.length t.cap] 24)).drew := ⟨_, rfl⟩
  have g1 : x1.heap[w2.heap.size]? = some (.cells #[.int .i64 t.kd, .int .i64 t.n, .int .i64 t.ev, .bool t.bz, .slice t.p t.kids.length t.cap] 24 (0, 0)) := by rw [hx1]; exact World.alloc_heap_new _ _
  have bx1 : Below w2.heap.size w2 x1 := by rw [hx1]; exact (by repeat (first | exact Below.refl _ _ | assumption | refine below_drewN ?_ _ | refine Below.setCell ?_ (by first | (simp; done) | (simp; omega)) _ | refine Below.alloc ?_ (by first | (simp; done) | (simp; omega) | omega) _ | refine Below.drew ?_ | refine Below.trans ?_ (Below.mono (by assumption) (by first | (simp; done) | (simp; omega) | omega))))
  rw [← hx1] at hHeld ⊢
  clear hx1
  (try simp only [List.getElem_toArray, List.getElem_cons_succ,  List.getElem_cons_zero, Act.put, List.setIfInBounds_toArray, List.set_cons_zero, List.set_cons_succ])
  refine wpAnyH_ready (rs := [4]) (by kernel_rfl) (by simp) ?_
  refine AllReadyH.cons rfl (fun K hK => ?_) AllReadyH.nil
  go_simp
  refine (of_calls 4 m false _ 1 1 _).mono ?_
  rintro e' v1 ⟨rfl, hv1⟩
  go_wp2_with fail
  refine hK.out _ _ (holdT (by assumption) hv1) (fun hHeld => ?_)
  clear hK K
  (try simp only [List.getElem_toArray, List.getElem_cons_succ,  List.getElem_cons_zero, Act.put, List.setIfInBounds_toArray, List.set_cons_zero, List.set_cons_succ])
  have g1 := (hv1.block _ (Array.getElem?_eq_some_iff.1 g1).1).trans g1
  refine wpAnyH_ready (rs := [5]) (by kernel_rfl) (by simp) ?_
  refine AllReadyH.cons rfl (fun K hK => ?_) AllReadyH.nil
  go_simp
  refine hK.out _ _ (holdT (by assumption) (by repeat (first | exact Below.refl _ _ | assumption | refine below_drewN ?_ _ | refine Below.setCell ?_ (by first | (simp; done) | (simp; omega)) _ | refine Below.alloc ?_ (by first | (simp; done) | (simp; omega) | omega) _ | refine Below.drew ?_ | refine Below.trans ?_ (Below.mono (by assumption) (by first | (simp; done) | (simp; omega) | omega))))) (fun hHeld => ?_)
  clear hK K
  obtain ⟨x2, hx2⟩ : ∃ x, x = v1.alloc (.cells #[.int .i64 4, .int .i64 m, .int .i64 0, .bool false, .slice (some ⟨w2.heap.size, 0, none⟩) 1 1] 24) := ⟨_, rfl⟩
  have g2 : x2.heap[v1.heap.size]? = some (.cells #[.int .i64 4, .int .i64 m, .int .i64 0, .bool false, .slice (some ⟨w2.heap.size, 0, none⟩) 1 1] 24 (0, 0)) := by rw [hx2]; exact World.alloc_heap_new _ _
  have bx2 : Below v1.heap.size v1 x2 := by rw [hx2]; exact (by repeat (first | exact Below.refl _ _ | assumption | refine below_drewN ?_ _ | refine Below.setCell ?_ (by first | (simp; done) | (simp; omega)) _ | refine Below.alloc ?_ (by first | (simp; done) | (simp; omega) | omega) _ | refine Below.drew ?_ | refine Below.trans ?_ (Below.mono (by assumption) (by first | (simp; done) | (simp; omega) | omega))))
  rw [← hx2] at hHeld ⊢
  clear hx2
  (try simp only [List.getElem_toArray, List.getElem_cons_succ,  List.getElem_cons_zero, Act.put, List.setIfInBounds_toArray, List.set_cons_zero, List.set_cons_succ])
  have g1 := (bx2.block _ (Array.getElem?_eq_some_iff.1 g1).1).trans g1
  refine wpAnyH_ready (rs := [6]) (by kernel_rfl) (by simp) ?_
  refine AllReadyH.cons rfl (fun K hK => ?_) AllReadyH.nil
  go_simp
  refine (of_calls 4 n false _ 1 1 _).mono ?_
  rintro e' v2 ⟨rfl, hv2⟩
  go_wp2_with fail
  refine hK.out _ _ (holdT (by assumption) hv2) (fun hHeld => ?_)
  clear hK K
  (try simp only [List.getElem_toArray, List.getElem_cons_succ,  List.getElem_cons_zero, Act.put, List.setIfInBounds_toArray, List.set_cons_zero, List.set_cons_succ])
  have g1 := (hv2.block _ (Array.getElem?_eq_some_iff.1 g1).1).trans g1
  have g2 := (hv2.block _ (Array.getElem?_eq_some_iff.1 g2).1).trans g2
  refine wpAnyH_ready (rs := [9]) (by kernel_rfl) (by simp) ?_
  refine AllReadyH.cons rfl (fun K hK => ?_) AllReadyH.nil
  go_simp
  refine (eval_at (.node 4 n 0 false (some ⟨v1.heap.size, 0, none⟩) 1 [.node 4 m 0 false (some ⟨w2.heap.size, 0, none⟩) 1 [t]]) c q capq l _ (tat_one ⟨cell_at g2 rfl, cell_at g2 rfl, cell_at g2 rfl, cell_at g2 rfl, cell_at g2 rfl⟩ (tat_one ⟨cell_at g1 rfl, cell_at g1 rfl, cell_at g1 rfl, cell_at g1 rfl, cell_at g1 rfl⟩ (HT2.out.below hHeld.1))) (HC2.out.below hHeld.1) (HL2.out.below hHeld.1) (by omega) (HE2.out.below hHeld.1)).mono ?_
  rintro e' w3 ⟨rfl, hv3⟩
  rw [HA.out]
  simp only [R3]
  go_wp2_with fail
  refine hK.out _ _ (holdT (by assumption) hv3) (fun hHeld => ?_)
  clear hK K
  (try simp only [List.getElem_toArray, List.getElem_cons_succ,  List.getElem_cons_zero, Act.put, List.setIfInBounds_toArray, List.set_cons_zero, List.set_cons_succ])
  clear g1 g2 bx1 hv1 bx2 hv2
  refine wpAnyH_take (i := 10) (v := ?_) rfl (by kernel_rfl) (by kernel_rfl) (by kernel_rfl) (fun _ _ _ h => h) (Or.inl ⟨by rfl, ?hy⟩) (by assumption) ?_
  case hy =>
    intro W hSw
    (try dsimp only at hSw)
    first | (go_simp; done) | (go_simp; with_reducible rfl)
  (try simp only [List.getElem_toArray, List.getElem_cons_succ,  List.getElem_cons_zero, Act.put, List.setIfInBounds_toArray, List.set_cons_zero, List.set_cons_succ])
  refine wpAnyH_take (i := 11) (v := ?_) rfl (by kernel_rfl) (by kernel_rfl) (by kernel_rfl) (fun _ _ _ h => h) (Or.inl ⟨by rfl, ?hy⟩) (by assumption) ?_
  case hy =>
    intro W hSw
    (try dsimp only at hSw)
    first | (go_simp; done) | (go_simp; with_reducible rfl)
  (try simp only [List.getElem_toArray, List.getElem_cons_succ,  List.getElem_cons_zero, Act.put, List.setIfInBounds_toArray, List.set_cons_zero, List.set_cons_succ])
  refine wpAnyH_take (i := 12) (v := ?_) rfl (by kernel_rfl) (by kernel_rfl) (by kernel_rfl) (fun _ _ _ h => h) (Or.inl ⟨by rfl, ?hy⟩) (by assumption) ?_
  case hy =>
    intro W hSw
    (try dsimp only at hSw)
    first | (go_simp; done) | (go_simp; with_reducible rfl)
  (try simp only [List.getElem_toArray, List.getElem_cons_succ,  List.getElem_cons_zero, Act.put, List.setIfInBounds_toArray, List.set_cons_zero, List.set_cons_succ])
  refine wpAnyH_take (i := 13) (v := ?_) rfl (by kernel_rfl) (by kernel_rfl) (by kernel_rfl) (fun _ _ _ h => h) (Or.inl ⟨by rfl, ?hy⟩) (by assumption) ?_
  case hy =>
    intro W hSw
    (try dsimp only at hSw)
    first | (go_simp; done) | (go_simp; with_reducible rfl)
  (try simp only [List.getElem_toArray, List.getElem_cons_succ,  List.getElem_cons_zero, Act.put, List.setIfInBounds_toArray, List.set_cons_zero, List.set_cons_succ])
  refine wpAnyH_take (i := 14) (v := ?_) rfl (by kernel_rfl) (by kernel_rfl) (by kernel_rfl) (fun _ _ _ h => h) (Or.inl ⟨by rfl, ?hy⟩) (by assumption) ?_
  case hy =>
    intro W hSw
    (try dsimp only at hSw)
    first | (go_simp; done) | (go_simp; with_reducible rfl)
  (try simp only [List.getElem_toArray, List.getElem_cons_succ,  List.getElem_cons_zero, Act.put, List.setIfInBounds_toArray, List.set_cons_zero, List.set_cons_succ])
  refine wpAnyH_take (i := 15) (v := ?_) rfl (by kernel_rfl) (by kernel_rfl) (by kernel_rfl) (fun _ _ _ h => h) (Or.inl ⟨by rfl, ?hy⟩) (by assumption) ?_
  case hy =>
    intro W hSw
    (try dsimp only at hSw)
    first | (go_simp; done) | (go_simp; with_reducible rfl)
  (try simp only [List.getElem_toArray, List.getElem_cons_succ,  List.getElem_cons_zero, Act.put, List.setIfInBounds_toArray, List.set_cons_zero, List.set_cons_succ])
  refine wpAnyH_take (i := 16) (v := ?_) rfl (by kernel_rfl) (by kernel_rfl) (by kernel_rfl) (fun _ _ _ h => h) (Or.inl ⟨by rfl, ?hy⟩) (by assumption) ?_
  case hy =>
    intro W hSw
    (try dsimp only at hSw)
    first | (go_simp; done) | (go_simp; with_reducible rfl)
  (try simp only [List.getElem_toArray, List.getElem_cons_succ,  List.getElem_cons_zero, Act.put, List.setIfInBounds_toArray, List.set_cons_zero, List.set_cons_succ])
  refine wpAnyH_done (by kernel_rfl) ?_ _
  have bb3 : Below w2.heap.size w2 w3 := hHeld.1
  have hz3 := bb3.size
  clear hHeld hv3
  have be3 : Below w.heap.size w w3 := BE2.out.trans (bb3.mono BE2.out.size)
  have c3_t_0 : w3.cell? ⟨w.heap.size, 0, none⟩ = some (.int .i64 t.kd) := cell_keep bb3 c2_t_0
  have c3_t_1 : w3.cell? ⟨w.heap.size, 1, none⟩ = some (.int .i64 t.n) := cell_keep bb3 c2_t_1
  have c3_t_2 : w3.cell? ⟨w.heap.size, 2, none⟩ = some (.int .i64 t.ev) := cell_keep bb3 c2_t_2
  have c3_t_3 : w3.cell? ⟨w.heap.size, 3, none⟩ = some (.bool t.bz) := cell_keep bb3 c2_t_3
  have c3_t_4 : w3.cell? ⟨w.heap.size, 4, none⟩ = some (.slice t.p t.kids.length t.cap) := cell_keep bb3 c2_t_4
  have l3_t : w.heap.size < w3.heap.size := by omega
  have m3_t : w.heap.size < w3.heap.size + 1 := by omega
  have c3_c_0 : w3.cell? ⟨w.heap.size + 1, 0, none⟩ = some (.bool c.b0) := cell_keep bb3 c2_c_0
  have c3_c_1 : w3.cell? ⟨w.heap.size + 1, 1, none⟩ = some (.bool c.b1) := cell_keep bb3 c2_c_1
  have c3_c_2 : w3.cell? ⟨w.heap.size + 1, 2, none⟩ = some (.bool c.b2) := cell_keep bb3 c2_c_2
  have c3_c_3 : w3.cell? ⟨w.heap.size + 1, 3, none⟩ = some (.bool c.b3) := cell_keep bb3 c2_c_3
  have c3_c_4 : w3.cell? ⟨w.heap.size + 1, 4, none⟩ = some (.bool c.b4) := cell_keep bb3 c2_c_4
  have c3_c_5 : w3.cell? ⟨w.heap.size + 1, 5, none⟩ = some (.bool c.b5) := cell_keep bb3 c2_c_5
  have c3_c_6 : w3.cell? ⟨w.heap.size + 1, 6, none⟩ = some (.bool c.b6) := cell_keep bb3 c2_c_6
  have c3_c_7 : w3.cell? ⟨w.heap.size + 1, 7, none⟩ = some (.slice c.p c.hs.length c.cap) := cell_keep bb3 c2_c_7
  have l3_c : w.heap.size + 1 < w3.heap.size := by omega
  have m3_c : w.heap.size + 1 < w3.heap.size + 1 := by omega
  have HT3 := Lib.hid (HT2.out.below bb3)
  have HC3 := Lib.hid (HC2.out.below bb3)
  have HL3 := Lib.hid (HL2.out.below bb3)
  have HE3 := Lib.hid (HE2.out.below bb3)
  have BE3 := Lib.hid be3
  clear be3 bb3 BE2 c2_t_0 c2_t_1 c2_t_2 c2_t_3 c2_t_4 l2_t m2_t c2_c_0 c2_c_1 c2_c_2 c2_c_3 c2_c_4 c2_c_5 c2_c_6 c2_c_7 l2_c m2_c HT2 HC2 HL2 HE2
  go_wp2_with fail
  refine wp_region_held_drew (S := (fun w' => Below w3.heap.size w3 w' ∧ ∀ b o, b < w3.heap.size → w'.cell? ⟨b, o, none⟩ = w3.cell? ⟨b, o, none⟩)) (by kernel_rfl) (holdS (Below.drew (Below.refl _ _))) (fun hHeld => ?_)
  refine wpAnyH_take (i := 0) (v := ?_) rfl (by kernel_rfl) (by kernel_rfl) (by kernel_rfl) (fun _ _ _ h => h) (Or.inl ⟨by rfl, ?hy⟩) (by assumption) ?_
  case hy =>
    intro W hSw
    (try dsimp only at hSw)
    first | (go_simp; done) | (go_simp; with_reducible rfl)
  (try simp only [List.getElem_toArray,  List.getElem_cons_zero, Act.put, List.setIfInBounds_toArray, List.set_cons_zero, List.set_cons_succ])
  refine wpAnyH_take (i := 1) (v := ?_) rfl (by kernel_rfl) (by kernel_rfl) (by kernel_rfl) (fun _ _ _ h => h) (Or.inl ⟨by rfl, ?hy⟩) (by assumption) ?_
  case hy =>
    intro W hSw
    (try dsimp only at hSw)
    first | (go_simp; done) | (go_simp; with_reducible rfl)
  (try simp only [List.getElem_toArray, List.getElem_cons_succ,  List.getElem_cons_zero, Act.put, List.setIfInBounds_toArray, List.set_cons_zero, List.set_cons_succ])
  refine wpAnyH_take (i := 2) (v := ?_) rfl (by kernel_rfl) (by kernel_rfl) (by kernel_rfl) (fun _ _ _ h => h) (Or.inl ⟨by rfl, ?hy⟩) (by assumption) ?_
  case hy =>
    intro W hSw
    (try dsimp only at hSw)
    first | (go_simp; done) | (go_simp; with_reducible rfl)
  (try simp only [List.getElem_toArray, List.getElem_cons_succ,  List.getElem_cons_zero, Act.put, List.setIfInBounds_toArray, List.set_cons_zero, List.set_cons_succ])
  refine wpAnyH_take (i := 3) (v := ?_) rfl (by kernel_rfl) (by kernel_rfl) (by kernel_rfl) (fun _ _ _ h => h) (Or.inl ⟨by rfl, ?hy⟩) (by assumption) ?_
  case hy =>
    intro W hSw
    (try dsimp only at hSw)
    first | (go_simp; done) | (go_simp; with_reducible rfl)
  (try simp only [List.getElem_toArray, List.getElem_cons_succ,  List.getElem_cons_zero, Act.put, List.setIfInBounds_toArray, List.set_cons_zero, List.set_cons_succ])
  refine wpAnyH_take (i := 6) (v := ?_) rfl (by kernel_rfl) (by kernel_rfl) (by kernel_rfl) (fun _ _ _ h => h) (Or.inl ⟨by rfl, ?hy⟩) (by assumption) ?_
  case hy =>
    intro W hSw
    (try dsimp only at hSw)
    first | (go_simp; done) | (go_simp; with_reducible rfl)
  (try simp only [List.getElem_toArray, List.getElem_cons_succ,  List.getElem_cons_zero, Act.put, List.setIfInBounds_toArray, List.set_cons_zero, List.set_cons_succ])
  refine wpAnyH_take (i := 7) (v := ?_) rfl (by kernel_rfl) (by kernel_rfl) (by kernel_rfl) (fun _ _ _ h => h) (Or.inl ⟨by rfl, ?hy⟩) (by assumption) ?_
  case hy =>
    intro W hSw
    (try dsimp only at hSw)
    first | (go_simp; done) | (go_simp; with_reducible rfl)
  (try simp only [List.getElem_toArray, List.getElem_cons_succ,  List.getElem_cons_zero, Act.put, List.setIfInBounds_toArray, List.set_cons_zero, List.set_cons_succ])
  refine wpAnyH_ready (rs := [4]) (by kernel_rfl) (by simp) ?_
  refine AllReadyH.cons rfl (fun K hK => ?_) AllReadyH.nil
  go_simp
  refine hK.out _ _ (holdS (by repeat (first | exact Below.refl _ _ | assumption | refine below_drewN ?_ _ | refine Below.setCell ?_ (by first | (simp; done) | (simp; omega)) _ | refine Below.alloc ?_ (by first | (simp; done) | (simp; omega) | omega) _ | refine Below.drew ?_ | refine Below.trans ?_ (Below.mono (by assumption) (by first | (simp; done) | (simp; omega) | omega))))) (fun hHeld => ?_)
  clear hK K
  obtain ⟨x1, hx1⟩ : ∃ x, x = (w3.alloc (.cells #[.int .i64 t.kd, .int .i64 t.n, .int .i64 t.ev, .bool t.bz, .slice t.p t.kids.length t.cap] 24)).drew := ⟨_, rfl⟩
  have g1 : x1.heap[w3.heap.size]? = some (.cells #[.int .i64 t.kd, .int .i64 t.n, .int .i64 t.ev, .bool t.bz, .slice t.p t.kids.length t.cap] 24 (0, 0)) := by rw [hx1]; exact World.alloc_heap_new _ _
  have bx1 : Below w3.heap.size w3 x1 := by rw [hx1]; exact (by repeat (first | exact Below.refl _ _ | assumption | refine below_drewN ?_ _ | refine Below.setCell ?_ (by first | (simp; done) | (simp; omega)) _ | refine Below.alloc ?_ (by first | (simp; done) | (simp; omega) | omega) _ | refine Below.drew ?_ | refine Below.trans ?_ (Below.mono (by assumption) (by first | (simp; done) | (simp; omega) | omega))))
  rw [← hx1] at hHeld ⊢
  clear hx1
  (try simp only [List.getElem_toArray, List.getElem_cons_succ,  List.getElem_cons_zero, Act.put, List.setIfInBounds_toArray, List.set_cons_zero, List.set_cons_succ])
  refine wpAnyH_ready (rs := [5]) (by kernel_rfl) (by simp) ?_
  refine AllReadyH.cons rfl (fun K hK => ?_) AllReadyH.nil
  go_simp
  simp only [HW1.out]
  refine (of_calls 4 (m + n) false _ 1 1 _).mono ?_
  rintro e' v1 ⟨rfl, hv1⟩
  go_wp2_with fail
  refine hK.out _ _ (holdT (by assumption) hv1) (fun hHeld => ?_)
  clear hK K
  (try simp only [List.getElem_toArray, List.getElem_cons_succ,  List.getElem_cons_zero, Act.put, List.setIfInBounds_toArray, List.set_cons_zero, List.set_cons_succ])
  have g1 := (hv1.block _ (Array.getElem?_eq_some_iff.1 g1).1).trans g1
  refine wpAnyH_ready (rs := [8]) (by kernel_rfl) (by simp) ?_
  refine AllReadyH.cons rfl (fun K hK => ?_) AllReadyH.nil
  go_simp
  refine (eval_at (.node 4 (m + n) 0 false (some ⟨w3.heap.size, 0, none⟩) 1 [t]) c q capq l _ (tat_one ⟨cell_at g1 rfl, cell_at g1 rfl, cell_at g1 rfl, cell_at g1 rfl, cell_at g1 rfl⟩ (HT3.out.below hHeld.1)) (HC3.out.below hHeld.1) (HL3.out.below hHeld.1) (by omega) (HE3.out.below hHeld.1)).mono ?_
  rintro e' w4 ⟨rfl, hv2⟩
  rw [HB.out]
  simp only [R3]
  go_wp2_with fail
  refine hK.out _ _ (holdT (by assumption) hv2) (fun hHeld => ?_)
  clear hK K
  (try simp only [List.getElem_toArray, List.getElem_cons_succ,  List.getElem_cons_zero, Act.put, List.setIfInBounds_toArray, List.set_cons_zero, List.set_cons_succ])
  clear g1 bx1 hv1
  refine wpAnyH_take (i := 9) (v := ?_) rfl (by kernel_rfl) (by kernel_rfl) (by kernel_rfl) (fun _ _ _ h => h) (Or.inl ⟨by rfl, ?hy⟩) (by assumption) ?_
  case hy =>
    intro W hSw
    (try dsimp only at hSw)
    first | (go_simp; done) | (go_simp; with_reducible rfl)
  (try simp only [List.getElem_toArray, List.getElem_cons_succ,  List.getElem_cons_zero, Act.put, List.setIfInBounds_toArray, List.set_cons_zero, List.set_cons_succ])
  refine wpAnyH_take (i := 10) (v := ?_) rfl (by kernel_rfl) (by kernel_rfl) (by kernel_rfl) (fun _ _ _ h => h) (Or.inl ⟨by rfl, ?hy⟩) (by assumption) ?_
  case hy =>
    intro W hSw
    (try dsimp only at hSw)
    first | (go_simp; done) | (go_simp; with_reducible rfl)
  (try simp only [List.getElem_toArray, List.getElem_cons_succ,  List.getElem_cons_zero, Act.put, List.setIfInBounds_toArray, List.set_cons_zero, List.set_cons_succ])
  refine wpAnyH_take (i := 11) (v := ?_) rfl (by kernel_rfl) (by kernel_rfl) (by kernel_rfl) (fun _ _ _ h => h) (Or.inl ⟨by rfl, ?hy⟩) (by assumption) ?_
  case hy =>
    intro W hSw
    (try dsimp only at hSw)
    first | (go_simp; done) | (go_simp; with_reducible rfl)
  (try simp only [List.getElem_toArray, List.getElem_cons_succ,  List.getElem_cons_zero, Act.put, List.setIfInBounds_toArray, List.set_cons_zero, List.set_cons_succ])
  refine wpAnyH_take (i := 12) (v := ?_) rfl (by kernel_rfl) (by kernel_rfl) (by kernel_rfl) (fun _ _ _ h => h) (Or.inl ⟨by rfl, ?hy⟩) (by assumption) ?_
  case hy =>
    intro W hSw
    (try dsimp only at hSw)
    first | (go_simp; done) | (go_simp; with_reducible rfl)
  (try simp only [List.getElem_toArray, List.getElem_cons_succ,  List.getElem_cons_zero, Act.put, List.setIfInBounds_toArray, List.set_cons_zero, List.set_cons_succ])
  refine wpAnyH_take (i := 13) (v := ?_) rfl (by kernel_rfl) (by kernel_rfl) (by kernel_rfl) (fun _ _ _ h => h) (Or.inl ⟨by rfl, ?hy⟩) (by assumption) ?_
  case hy =>
    intro W hSw
    (try dsimp only at hSw)
    first | (go_simp; done) | (go_simp; with_reducible rfl)
  (try simp only [List.getElem_toArray, List.getElem_cons_succ,  List.getElem_cons_zero, Act.put, List.setIfInBounds_toArray, List.set_cons_zero, List.set_cons_succ])
  refine wpAnyH_take (i := 14) (v := ?_) rfl (by kernel_rfl) (by kernel_rfl) (by kernel_rfl) (fun _ _ _ h => h) (Or.inl ⟨by rfl, ?hy⟩) (by assumption) ?_
  case hy =>
    intro W hSw
    (try dsimp only at hSw)
    first | (go_simp; done) | (go_simp; with_reducible rfl)
  (try simp only [List.getElem_toArray, List.getElem_cons_succ,  List.getElem_cons_zero, Act.put, List.setIfInBounds_toArray, List.set_cons_zero, List.set_cons_succ])
  refine wpAnyH_take (i := 15) (v := ?_) rfl (by kernel_rfl) (by kernel_rfl) (by kernel_rfl) (fun _ _ _ h => h) (Or.inl ⟨by rfl, ?hy⟩) (by assumption) ?_
  case hy =>
    intro W hSw
    (try dsimp only at hSw)
    first | (go_simp; done) | (go_simp; with_reducible rfl)
  (try simp only [List.getElem_toArray, List.getElem_cons_succ,  List.getElem_cons_zero, Act.put, List.setIfInBounds_toArray, List.set_cons_zero, List.set_cons_succ])
  refine wpAnyH_done (by kernel_rfl) ?_ _
  have bb4 : Below w3.heap.size w3 w4 := hHeld.1
  have hz4 := bb4.size
  clear hHeld hv2
  have be4 : Below w.heap.size w w4 := BE3.out.trans (bb4.mono BE3.out.size)
  have c4_t_0 : w4.cell? ⟨w.heap.size, 0, none⟩ = some (.int .i64 t.kd) := cell_keep bb4 c3_t_0
  have c4_t_1 : w4.cell? ⟨w.heap.size, 1, none⟩ = some (.int .i64 t.n) := cell_keep bb4 c3_t_1
  have c4_t_2 : w4.cell? ⟨w.heap.size, 2, none⟩ = some (.int .i64 t.ev) := cell_keep bb4 c3_t_2
  have c4_t_3 : w4.cell? ⟨w.heap.size, 3, none⟩ = some (.bool t.bz) := cell_keep bb4 c3_t_3
  have c4_t_4 : w4.cell? ⟨w.heap.size, 4, none⟩ = some (.slice t.p t.kids.length t.cap) := cell_keep bb4 c3_t_4
  have l4_t : w.heap.size < w4.heap.size := by omega
  have m4_t : w.heap.size < w4.heap.size + 1 := by omega
  have c4_c_0 : w4.cell? ⟨w.heap.size + 1, 0, none⟩ = some (.bool c.b0) := cell_keep bb4 c3_c_0
  have c4_c_1 : w4.cell? ⟨w.heap.size + 1, 1, none⟩ = some (.bool c.b1) := cell_keep bb4 c3_c_1
  have c4_c_2 : w4.cell? ⟨w.heap.size + 1, 2, none⟩ = some (.bool c.b2) := cell_keep bb4 c3_c_2
  have c4_c_3 : w4.cell? ⟨w.heap.size + 1, 3, none⟩ = some (.bool c.b3) := cell_keep bb4 c3_c_3
  have c4_c_4 : w4.cell? ⟨w.heap.size + 1, 4, none⟩ = some (.bool c.b4) := cell_keep bb4 c3_c_4
  have c4_c_5 : w4.cell? ⟨w.heap.size + 1, 5, none⟩ = some (.bool c.b5) := cell_keep bb4 c3_c_5
  have c4_c_6 : w4.cell? ⟨w.heap.size + 1, 6, none⟩ = some (.bool c.b6) := cell_keep bb4 c3_c_6
  have c4_c_7 : w4.cell? ⟨w.heap.size + 1, 7, none⟩ = some (.slice c.p c.hs.length c.cap) := cell_keep bb4 c3_c_7
  have l4_c : w.heap.size + 1 < w4.heap.size := by omega
  have m4_c : w.heap.size + 1 < w4.heap.size + 1 := by omega
  have HT4 := Lib.hid (HT3.out.below bb4)
  have HC4 := Lib.hid (HC3.out.below bb4)
  have HL4 := Lib.hid (HL3.out.below bb4)
  have HE4 := Lib.hid (HE3.out.below bb4)
  have BE4 := Lib.hid be4
  clear be4 bb4 BE3 c3_t_0 c3_t_1 c3_t_2 c3_t_3 c3_t_4 l3_t m3_t c3_c_0 c3_c_1 c3_c_2 c3_c_3 c3_c_4 c3_c_5 c3_c_6 c3_c_7 l3_c m3_c HT3 HC3 HL3 HE3
  go_wp2_with fail
  refine (of_calls 6 0 false _ 1 1 _).mono ?_
  rintro e w5 ⟨rfl, hb5⟩
  have hz5 := hb5.size
  (try simp at hz5)
  have bb5 : Below w4.heap.size w4 w5 := (by repeat (first | exact Below.refl _ _ | assumption | refine below_drewN ?_ _ | refine Below.setCell ?_ (by first | (simp; done) | (simp; omega)) _ | refine Below.alloc ?_ (by first | (simp; done) | (simp; omega) | omega) _ | refine Below.drew ?_ | refine Below.trans ?_ (Below.mono (by assumption) (by first | (simp; done) | (simp; omega) | omega))))
  have be5 : Below w.heap.size w w5 := BE4.out.trans (bb5.mono BE4.out.size)
  have c5_t_0 : w5.cell? ⟨w.heap.size, 0, none⟩ = some (.int .i64 t.kd) := cell_keep bb5 c4_t_0
  have c5_t_1 : w5.cell? ⟨w.heap.size, 1, none⟩ = some (.int .i64 t.n) := cell_keep bb5 c4_t_1
  have c5_t_2 : w5.cell? ⟨w.heap.size, 2, none⟩ = some (.int .i64 t.ev) := cell_keep bb5 c4_t_2
  have c5_t_3 : w5.cell? ⟨w.heap.size, 3, none⟩ = some (.bool t.bz) := cell_keep bb5 c4_t_3
  have c5_t_4 : w5.cell? ⟨w.heap.size, 4, none⟩ = some (.slice t.p t.kids.length t.cap) := cell_keep bb5 c4_t_4
  have l5_t : w.heap.size < w5.heap.size := by omega
  have m5_t : w.heap.size < w5.heap.size + 1 := by omega
  have c5_c_0 : w5.cell? ⟨w.heap.size + 1, 0, none⟩ = some (.bool c.b0) := cell_keep bb5 c4_c_0
  have c5_c_1 : w5.cell? ⟨w.heap.size + 1, 1, none⟩ = some (.bool c.b1) := cell_keep bb5 c4_c_1
  have c5_c_2 : w5.cell? ⟨w.heap.size + 1, 2, none⟩ = some (.bool c.b2) := cell_keep bb5 c4_c_2
  have c5_c_3 : w5.cell? ⟨w.heap.size + 1, 3, none⟩ = some (.bool c.b3) := cell_keep bb5 c4_c_3
  have c5_c_4 : w5.cell? ⟨w.heap.size + 1, 4, none⟩ = some (.bool c.b4) := cell_keep bb5 c4_c_4
  have c5_c_5 : w5.cell? ⟨w.heap.size + 1, 5, none⟩ = some (.bool c.b5) := cell_keep bb5 c4_c_5
  have c5_c_6 : w5.cell? ⟨w.heap.size + 1, 6, none⟩ = some (.bool c.b6) := cell_keep bb5 c4_c_6
  have c5_c_7 : w5.cell? ⟨w.heap.size + 1, 7, none⟩ = some (.slice c.p c.hs.length c.cap) := cell_keep bb5 c4_c_7
  have l5_c : w.heap.size + 1 < w5.heap.size := by omega
  have m5_c : w.heap.size + 1 < w5.heap.size + 1 := by omega
  have c5_k_0 : w5.cell? ⟨w4.heap.size, 0, none⟩ = some (.int .i64 t.kd) := cell_keep hb5 (by go_simp)
  have c5_k_1 : w5.cell? ⟨w4.heap.size, 1, none⟩ = some (.int .i64 t.n) := cell_keep hb5 (by go_simp)
  have c5_k_2 : w5.cell? ⟨w4.heap.size, 2, none⟩ = some (.int .i64 t.ev) := cell_keep hb5 (by go_simp)
  have c5_k_3 : w5.cell? ⟨w4.heap.size, 3, none⟩ = some (.bool t.bz) := cell_keep hb5 (by go_simp)
  have c5_k_4 : w5.cell? ⟨w4.heap.size, 4, none⟩ = some (.slice t.p t.kids.length t.cap) := cell_keep hb5 (by go_simp)
  have l5_k : w4.heap.size < w5.heap.size := by omega
  have m5_k : w4.heap.size < w5.heap.size + 1 := by omega
  have HT5 := Lib.hid (HT4.out.below bb5)
  have HC5 := Lib.hid (HC4.out.below bb5)
  have HL5 := Lib.hid (HL4.out.below bb5)
  have HE5 := Lib.hid (HE4.out.below bb5)
  have BE5 := Lib.hid be5
  clear be5 bb5 hb5 BE4 c4_t_0 c4_t_1 c4_t_2 c4_t_3 c4_t_4 l4_t m4_t c4_c_0 c4_c_1 c4_c_2 c4_c_3 c4_c_4 c4_c_5 c4_c_6 c4_c_7 l4_c m4_c HT4 HC4 HL4 HE4
  have HST5 := Lib.hid (show TAt w5 (.node 6 0 0 false (some ⟨w4.heap.size, 0, none⟩) 1 [t]) from tat_one ⟨c5_k_0, c5_k_1, c5_k_2, c5_k_3, c5_k_4⟩ HT5.out)
  go_upto_region 13 with fail
  obtain ⟨w6, hw6⟩ : ∃ W, W = (w5.alloc (.cells #[.int .i64 6, .int .i64 0, .int .i64 0, .bool false, .slice (some ⟨w4.heap.size, 0, none⟩) 1 1] 24)) := ⟨_, rfl⟩
  have bb6 : Below w5.heap.size w5 w6 := by rw [hw6]; exact (by repeat (first | exact Below.refl _ _ | assumption | refine below_drewN ?_ _ | refine Below.setCell ?_ (by first | (simp; done) | (simp; omega)) _ | refine Below.alloc ?_ (by first | (simp; done) | (simp; omega) | omega) _ | refine Below.drew ?_ | refine Below.trans ?_ (Below.mono (by assumption) (by first | (simp; done) | (simp; omega) | omega))))
  have n6_s_0 : w6.cell? ⟨w5.heap.size, 0, none⟩ = some (.int .i64 6) := by rw [hw6]; go_simp
  have n6_s_1 : w6.cell? ⟨w5.heap.size, 1, none⟩ = some (.int .i64 0) := by rw [hw6]; go_simp
  have n6_s_2 : w6.cell? ⟨w5.heap.size, 2, none⟩ = some (.int .i64 0) := by rw [hw6]; go_simp
  have n6_s_3 : w6.cell? ⟨w5.heap.size, 3, none⟩ = some (.bool false) := by rw [hw6]; go_simp
  have n6_s_4 : w6.cell? ⟨w5.heap.size, 4, none⟩ = some (.slice (some ⟨w4.heap.size, 0, none⟩) 1 1) := by rw [hw6]; go_simp
  rw [← hw6]
  have hz6 := bb6.size
  (try simp at hz6)
  clear hw6
  have be6 : Below w.heap.size w w6 := BE5.out.trans (bb6.mono BE5.out.size)
  have c6_t_0 : w6.cell? ⟨w.heap.size, 0, none⟩ = some (.int .i64 t.kd) := cell_keep bb6 c5_t_0
  have c6_t_1 : w6.cell? ⟨w.heap.size, 1, none⟩ = some (.int .i64 t.n) := cell_keep bb6 c5_t_1
  have c6_t_2 : w6.cell? ⟨w.heap.size, 2, none⟩ = some (.int .i64 t.ev) := cell_keep bb6 c5_t_2
  have c6_t_3 : w6.cell? ⟨w.heap.size, 3, none⟩ = some (.bool t.bz) := cell_keep bb6 c5_t_3
  have c6_t_4 : w6.cell? ⟨w.heap.size, 4, none⟩ = some (.slice t.p t.kids.length t.cap) := cell_keep bb6 c5_t_4
  have l6_t : w.heap.size < w6.heap.size := by omega
  have m6_t : w.heap.size < w6.heap.size + 1 := by omega
  have c6_c_0 : w6.cell? ⟨w.heap.size + 1, 0, none⟩ = some (.bool c.b0) := cell_keep bb6 c5_c_0
  have c6_c_1 : w6.cell? ⟨w.heap.size + 1, 1, none⟩ = some (.bool c.b1) := cell_keep bb6 c5_c_1
  have c6_c_2 : w6.cell? ⟨w.heap.size + 1, 2, none⟩ = some (.bool c.b2) := cell_keep bb6 c5_c_2
  have c6_c_3 : w6.cell? ⟨w.heap.size + 1, 3, none⟩ = some (.bool c.b3) := cell_keep bb6 c5_c_3
  have c6_c_4 : w6.cell? ⟨w.heap.size + 1, 4, none⟩ = some (.bool c.b4) := cell_keep bb6 c5_c_4
  have c6_c_5 : w6.cell? ⟨w.heap.size + 1, 5, none⟩ = some (.bool c.b5) := cell_keep bb6 c5_c_5
  have c6_c_6 : w6.cell? ⟨w.heap.size + 1, 6, none⟩ = some (.bool c.b6) := cell_keep bb6 c5_c_6
  have c6_c_7 : w6.cell? ⟨w.heap.size + 1, 7, none⟩ = some (.slice c.p c.hs.length c.cap) := cell_keep bb6 c5_c_7
  have l6_c : w.heap.size + 1 < w6.heap.size := by omega
  have m6_c : w.heap.size + 1 < w6.heap.size + 1 := by omega
  have c6_s_0 : w6.cell? ⟨w5.heap.size, 0, none⟩ = some (.int .i64 6) := n6_s_0
  have c6_s_1 : w6.cell? ⟨w5.heap.size, 1, none⟩ = some (.int .i64 0) := n6_s_1
  have c6_s_2 : w6.cell? ⟨w5.heap.size, 2, none⟩ = some (.int .i64 0) := n6_s_2
  have c6_s_3 : w6.cell? ⟨w5.heap.size, 3, none⟩ = some (.bool false) := n6_s_3
  have c6_s_4 : w6.cell? ⟨w5.heap.size, 4, none⟩ = some (.slice (some ⟨w4.heap.size, 0, none⟩) 1 1) := n6_s_4
  have l6_s : w5.heap.size < w6.heap.size := World.block_lt_of_cell? w6 _ c6_s_0
  have m6_s : w5.heap.size < w6.heap.size + 1 := by omega
  have HT6 := Lib.hid (HT5.out.below bb6)
  have HC6 := Lib.hid (HC5.out.below bb6)
  have HL6 := Lib.hid (HL5.out.below bb6)
  have HE6 := Lib.hid (HE5.out.below bb6)
  have HST6 := Lib.hid (HST5.out.below bb6)
  have BE6 := Lib.hid be6
  clear be6 bb6 BE5 c5_t_0 c5_t_1 c5_t_2 c5_t_3 c5_t_4 l5_t m5_t c5_c_0 c5_c_1 c5_c_2 c5_c_3 c5_c_4 c5_c_5 c5_c_6 c5_c_7 l5_c m5_c HT5 HC5 HL5 HE5 HST5
  refine wp_region_held_drew (S := (fun w' => Below w6.heap.size w6 w' ∧ ∀ b o, b < w6.heap.size → w'.cell? ⟨b, o, none⟩ = w6.cell? ⟨b, o, none⟩)) (by kernel_rfl) (holdS (Below.drew (Below.refl _ _))) (fun hHeld => ?_)
  refine wpAnyH_take (i := 0) (v := ?_) rfl (by kernel_rfl) (by kernel_rfl) (by kernel_rfl) (fun _ _ _ h => h) (Or.inl ⟨by rfl, ?hy⟩) (by assumption) ?_
  case hy =>
    intro W hSw
    (try dsimp only at hSw)
    first | (go_simp; done) | (go_simp; with_reducible rfl)
  (try simp only [List.getElem_toArray,  List.getElem_cons_zero, Act.put, List.setIfInBounds_toArray, List.set_cons_zero, List.set_cons_succ])
  refine wpAnyH_take (i := 1) (v := ?_) rfl (by kernel_rfl) (by kernel_rfl) (by kernel_rfl) (fun _ _ _ h => h) (Or.inl ⟨by rfl, ?hy⟩) (by assumption) ?_
  case hy =>
    intro W hSw
    (try dsimp only at hSw)
    first | (go_simp; done) | (go_simp; with_reducible rfl)
  (try simp only [List.getElem_toArray, List.getElem_cons_succ,  List.getElem_cons_zero, Act.put, List.setIfInBounds_toArray, List.set_cons_zero, List.set_cons_succ])
  refine wpAnyH_take (i := 2) (v := ?_) rfl (by kernel_rfl) (by kernel_rfl) (by kernel_rfl) (fun _ _ _ h => h) (Or.inl ⟨by rfl, ?hy⟩) (by assumption) ?_
  case hy =>
    intro W hSw
    (try dsimp only at hSw)
    first | (go_simp; done) | (go_simp; with_reducible rfl)
  (try simp only [List.getElem_toArray, List.getElem_cons_succ,  List.getElem_cons_zero, Act.put, List.setIfInBounds_toArray, List.set_cons_zero, List.set_cons_succ])
  refine wpAnyH_take (i := 3) (v := ?_) rfl (by kernel_rfl) (by kernel_rfl) (by kernel_rfl) (fun _ _ _ h => h) (Or.inl ⟨by rfl, ?hy⟩) (by assumption) ?_
  case hy =>
    intro W hSw
    (try dsimp only at hSw)
    first | (go_simp; done) | (go_simp; with_reducible rfl)
  (try simp only [List.getElem_toArray, List.getElem_cons_succ,  List.getElem_cons_zero, Act.put, List.setIfInBounds_toArray, List.set_cons_zero, List.set_cons_succ])
  refine wpAnyH_take (i := 8) (v := ?_) rfl (by kernel_rfl) (by kernel_rfl) (by kernel_rfl) (fun _ _ _ h => h) (Or.inl ⟨by rfl, ?hy⟩) (by assumption) ?_
  case hy =>
    intro W hSw
    (try dsimp only at hSw)
    first | (go_simp; done) | (go_simp; with_reducible rfl)
  (try simp only [List.getElem_toArray, List.getElem_cons_succ,  List.getElem_cons_zero, Act.put, List.setIfInBounds_toArray, List.set_cons_zero, List.set_cons_succ])
  refine wpAnyH_take (i := 9) (v := ?_) rfl (by kernel_rfl) (by kernel_rfl) (by kernel_rfl) (fun _ _ _ h => h) (Or.inl ⟨by rfl, ?hy⟩) (by assumption) ?_
  case hy =>
    intro W hSw
    (try dsimp only at hSw)
    first | (go_simp; done) | (go_simp; with_reducible rfl)
  (try simp only [List.getElem_toArray, List.getElem_cons_succ,  List.getElem_cons_zero, Act.put, List.setIfInBounds_toArray, List.set_cons_zero, List.set_cons_succ])
  refine wpAnyH_ready (rs := [4]) (by kernel_rfl) (by simp) ?_
  refine AllReadyH.cons rfl (fun K hK => ?_) AllReadyH.nil
  go_simp
  refine hK.out _ _ (holdS (by repeat (first | exact Below.refl _ _ | assumption | refine below_drewN ?_ _ | refine Below.setCell ?_ (by first | (simp; done) | (simp; omega)) _ | refine Below.alloc ?_ (by first | (simp; done) | (simp; omega) | omega) _ | refine Below.drew ?_ | refine Below.trans ?_ (Below.mono (by assumption) (by first | (simp; done) | (simp; omega) | omega))))) (fun hHeld => ?_)
  clear hK K
  obtain ⟨x1, hx1⟩ : ∃ x, x = (w6.alloc (.cells #[.int .i64 6, .int .i64 0, .int .i64 0, .bool false, .slice (some ⟨w4.heap.size, 0, none⟩) 1 1] 24)).drew := ⟨_, rfl⟩
  have g1 : x1.heap[w6.heap.size]? = some (.cells #[.int .i64 6, .int .i64 0, .int .i64 0, .bool false, .slice (some ⟨w4.heap.size, 0, none⟩) 1 1] 24 (0, 0)) := by rw [hx1]; exact World.alloc_heap_new _ _
  have bx1 : Below w6.heap.size w6 x1 := by rw [hx1]; exact (by repeat (first | exact Below.refl _ _ | assumption | refine below_drewN ?_ _ | refine Below.setCell ?_ (by first | (simp; done) | (simp; omega)) _ | refine Below.alloc ?_ (by first | (simp; done) | (simp; omega) | omega) _ | refine Below.drew ?_ | refine Below.trans ?_ (Below.mono (by assumption) (by first | (simp; done) | (simp; omega) | omega))))
  rw [← hx1] at hHeld ⊢
  clear hx1
  (try simp only [List.getElem_toArray, List.getElem_cons_succ,  List.getElem_cons_zero, Act.put, List.setIfInBounds_toArray, List.set_cons_zero, List.set_cons_succ])
  refine wpAnyH_ready (rs := [5]) (by kernel_rfl) (by simp) ?_
  refine AllReadyH.cons rfl (fun K hK => ?_) AllReadyH.nil
  go_simp
  refine (of_calls 4 m true _ 1 1 _).mono ?_
  rintro e' v1 ⟨rfl, hv1⟩
  go_wp2_with fail
  refine hK.out _ _ (holdT (by assumption) hv1) (fun hHeld => ?_)
  clear hK K
  (try simp only [List.getElem_toArray, List.getElem_cons_succ,  List.getElem_cons_zero, Act.put, List.setIfInBounds_toArray, List.set_cons_zero, List.set_cons_succ])
  have g1 := (hv1.block _ (Array.getElem?_eq_some_iff.1 g1).1).trans g1
  refine wpAnyH_ready (rs := [6]) (by kernel_rfl) (by simp) ?_
  refine AllReadyH.cons rfl (fun K hK => ?_) AllReadyH.nil
  go_simp
  refine hK.out _ _ (holdT (by assumption) (by repeat (first | exact Below.refl _ _ | assumption | refine below_drewN ?_ _ | refine Below.setCell ?_ (by first | (simp; done) | (simp; omega)) _ | refine Below.alloc ?_ (by first | (simp; done) | (simp; omega) | omega) _ | refine Below.drew ?_ | refine Below.trans ?_ (Below.mono (by assumption) (by first | (simp; done) | (simp; omega) | omega))))) (fun hHeld => ?_)
  clear hK K
  obtain ⟨x2, hx2⟩ : ∃ x, x = v1.alloc (.cells #[.int .i64 4, .int .i64 m, .int .i64 0, .bool true, .slice (some ⟨w6.heap.size, 0, none⟩) 1 1] 24) := ⟨_, rfl⟩
  have g2 : x2.heap[v1.heap.size]? = some (.cells #[.int .i64 4, .int .i64 m, .int .i64 0, .bool true, .slice (some ⟨w6.heap.size, 0, none⟩) 1 1] 24 (0, 0)) := by rw [hx2]; exact World.alloc_heap_new _ _
  have bx2 : Below v1.heap.size v1 x2 := by rw [hx2]; exact (by repeat (first | exact Below.refl _ _ | assumption | refine below_drewN ?_ _ | refine Below.setCell ?_ (by first | (simp; done) | (simp; omega)) _ | refine Below.alloc ?_ (by first | (simp; done) | (simp; omega) | omega) _ | refine Below.drew ?_ | refine Below.trans ?_ (Below.mono (by assumption) (by first | (simp; done) | (simp; omega) | omega))))
  rw [← hx2] at hHeld ⊢
  clear hx2
  (try simp only [List.getElem_toArray, List.getElem_cons_succ,  List.getElem_cons_zero, Act.put, List.setIfInBounds_toArray, List.set_cons_zero, List.set_cons_succ])
  have g1 := (bx2.block _ (Array.getElem?_eq_some_iff.1 g1).1).trans g1
  refine wpAnyH_ready (rs := [7]) (by kernel_rfl) (by simp) ?_
  refine AllReadyH.cons rfl (fun K hK => ?_) AllReadyH.nil
  go_simp
  simp only [HW2.out]
  refine (of_calls 4 (n + 1) true _ 1 1 _).mono ?_
  rintro e' v2 ⟨rfl, hv2⟩
  go_wp2_with fail
  refine hK.out _ _ (holdT (by assumption) hv2) (fun hHeld => ?_)
  clear hK K
  (try simp only [List.getElem_toArray, List.getElem_cons_succ,  List.getElem_cons_zero, Act.put, List.setIfInBounds_toArray, List.set_cons_zero, List.set_cons_succ])
  have g1 := (hv2.block _ (Array.getElem?_eq_some_iff.1 g1).1).trans g1
  have g2 := (hv2.block _ (Array.getElem?_eq_some_iff.1 g2).1).trans g2
  refine wpAnyH_ready (rs := [10]) (by kernel_rfl) (by simp) ?_
  refine AllReadyH.cons rfl (fun K hK => ?_) AllReadyH.nil
  go_simp
  refine (eval_at (.node 4 (n + 1) 0 true (some ⟨v1.heap.size, 0, none⟩) 1 [.node 4 m 0 true (some ⟨w6.heap.size, 0, none⟩) 1 [.node 6 0 0 false (some ⟨w4.heap.size, 0, none⟩) 1 [t]]]) c q capq l _ (tat_one ⟨cell_at g2 rfl, cell_at g2 rfl, cell_at g2 rfl, cell_at g2 rfl, cell_at g2 rfl⟩ (tat_one ⟨cell_at g1 rfl, cell_at g1 rfl, cell_at g1 rfl, cell_at g1 rfl, cell_at g1 rfl⟩ (HST6.out.below hHeld.1))) (HC6.out.below hHeld.1) (HL6.out.below hHeld.1) (by omega) (HE6.out.below hHeld.1)).mono ?_
  rintro e' w7 ⟨rfl, hv3⟩
  rw [HD.out]
  simp only [R3]
  go_wp2_with fail
  refine hK.out _ _ (holdT (by assumption) hv3) (fun hHeld => ?_)
  clear hK K
  (try simp only [List.getElem_toArray, List.getElem_cons_succ,  List.getElem_cons_zero, Act.put, List.setIfInBounds_toArray, List.set_cons_zero, List.set_cons_succ])
  clear g1 g2 bx1 hv1 bx2 hv2
  refine wpAnyH_take (i := 11) (v := ?_) rfl (by kernel_rfl) (by kernel_rfl) (by kernel_rfl) (fun _ _ _ h => h) (Or.inl ⟨by rfl, ?hy⟩) (by assumption) ?_
  case hy =>
    intro W hSw
    (try dsimp only at hSw)
    first | (go_simp; done) | (go_simp; with_reducible rfl)
  (try simp only [List.getElem_toArray, List.getElem_cons_succ,  List.getElem_cons_zero, Act.put, List.setIfInBounds_toArray, List.set_cons_zero, List.set_cons_succ])
  refine wpAnyH_take (i := 12) (v := ?_) rfl (by kernel_rfl) (by kernel_rfl) (by kernel_rfl) (fun _ _ _ h => h) (Or.inl ⟨by rfl, ?hy⟩) (by assumption) ?_
  case hy =>
    intro W hSw
    (try dsimp only at hSw)
    first | (go_simp; done) | (go_simp; with_reducible rfl)
  (try simp only [List.getElem_toArray, List.getElem_cons_succ,  List.getElem_cons_zero, Act.put, List.setIfInBounds_toArray, List.set_cons_zero, List.set_cons_succ])
  refine wpAnyH_take (i := 13) (v := ?_) rfl (by kernel_rfl) (by kernel_rfl) (by kernel_rfl) (fun _ _ _ h => h) (Or.inl ⟨by rfl, ?hy⟩) (by assumption) ?_
  case hy =>
    intro W hSw
    (try dsimp only at hSw)
    first | (go_simp; done) | (go_simp; with_reducible rfl)
  (try simp only [List.getElem_toArray, List.getElem_cons_succ,  List.getElem_cons_zero, Act.put, List.setIfInBounds_toArray, List.set_cons_zero, List.set_cons_succ])
  refine wpAnyH_take (i := 14) (v := ?_) rfl (by kernel_rfl) (by kernel_rfl) (by kernel_rfl) (fun _ _ _ h => h) (Or.inl ⟨by rfl, ?hy⟩) (by assumption) ?_
  case hy =>
    intro W hSw
    (try dsimp only at hSw)
    first | (go_simp; done) | (go_simp; with_reducible rfl)
  (try simp only [List.getElem_toArray, List.getElem_cons_succ,  List.getElem_cons_zero, Act.put, List.setIfInBounds_toArray, List.set_cons_zero, List.set_cons_succ])
  refine wpAnyH_take (i := 15) (v := ?_) rfl (by kernel_rfl) (by kernel_rfl) (by kernel_rfl) (fun _ _ _ h => h) (Or.inl ⟨by rfl, ?hy⟩) (by assumption) ?_
  case hy =>
    intro W hSw
    (try dsimp only at hSw)
    first | (go_simp; done) | (go_simp; with_reducible rfl)
  (try simp only [List.getElem_toArray, List.getElem_cons_succ,  List.getElem_cons_zero, Act.put, List.setIfInBounds_toArray, List.set_cons_zero, List.set_cons_succ])
  refine wpAnyH_take (i := 16) (v := ?_) rfl (by kernel_rfl) (by kernel_rfl) (by kernel_rfl) (fun _ _ _ h => h) (Or.inl ⟨by rfl, ?hy⟩) (by assumption) ?_
  case hy =>
    intro W hSw
    (try dsimp only at hSw)
    first | (go_simp; done) | (go_simp; with_reducible rfl)
  (try simp only [List.getElem_toArray, List.getElem_cons_succ,  List.getElem_cons_zero, Act.put, List.setIfInBounds_toArray, List.set_cons_zero, List.set_cons_succ])
  refine wpAnyH_take (i := 17) (v := ?_) rfl (by kernel_rfl) (by kernel_rfl) (by kernel_rfl) (fun _ _ _ h => h) (Or.inl ⟨by rfl, ?hy⟩) (by assumption) ?_
  case hy =>
    intro W hSw
    (try dsimp only at hSw)
    first | (go_simp; done) | (go_simp; with_reducible rfl)
  (try simp only [List.getElem_toArray, List.getElem_cons_succ,  List.getElem_cons_zero, Act.put, List.setIfInBounds_toArray, List.set_cons_zero, List.set_cons_succ])
  refine wpAnyH_done (by kernel_rfl) ?_ _
  have bb7 : Below w6.heap.size w6 w7 := hHeld.1
  have hz7 := bb7.size
  clear hHeld hv3
  have be7 : Below w.heap.size w w7 := BE6.out.trans (bb7.mono BE6.out.size)
  have c7_t_0 : w7.cell? ⟨w.heap.size, 0, none⟩ = some (.int .i64 t.kd) := cell_keep bb7 c6_t_0
  have c7_t_1 : w7.cell? ⟨w.heap.size, 1, none⟩ = some (.int .i64 t.n) := cell_keep bb7 c6_t_1
  have c7_t_2 : w7.cell? ⟨w.heap.size, 2, none⟩ = some (.int .i64 t.ev) := cell_keep bb7 c6_t_2
  have c7_t_3 : w7.cell? ⟨w.heap.size, 3, none⟩ = some (.bool t.bz) := cell_keep bb7 c6_t_3
  have c7_t_4 : w7.cell? ⟨w.heap.size, 4, none⟩ = some (.slice t.p t.kids.length t.cap) := cell_keep bb7 c6_t_4
  have l7_t : w.heap.size < w7.heap.size := by omega
  have m7_t : w.heap.size < w7.heap.size + 1 := by omega
  have c7_c_0 : w7.cell? ⟨w.heap.size + 1, 0, none⟩ = some (.bool c.b0) := cell_keep bb7 c6_c_0
  have c7_c_1 : w7.cell? ⟨w.heap.size + 1, 1, none⟩ = some (.bool c.b1) := cell_keep bb7 c6_c_1
  have c7_c_2 : w7.cell? ⟨w.heap.size + 1, 2, none⟩ = some (.bool c.b2) := cell_keep bb7 c6_c_2
  have c7_c_3 : w7.cell? ⟨w.heap.size + 1, 3, none⟩ = some (.bool c.b3) := cell_keep bb7 c6_c_3
  have c7_c_4 : w7.cell? ⟨w.heap.size + 1, 4, none⟩ = some (.bool c.b4) := cell_keep bb7 c6_c_4
  have c7_c_5 : w7.cell? ⟨w.heap.size + 1, 5, none⟩ = some (.bool c.b5) := cell_keep bb7 c6_c_5
  have c7_c_6 : w7.cell? ⟨w.heap.size + 1, 6, none⟩ = some (.bool c.b6) := cell_keep bb7 c6_c_6
  have c7_c_7 : w7.cell? ⟨w.heap.size + 1, 7, none⟩ = some (.slice c.p c.hs.length c.cap) := cell_keep bb7 c6_c_7
  have l7_c : w.heap.size + 1 < w7.heap.size := by omega
  have m7_c : w.heap.size + 1 < w7.heap.size + 1 := by omega
  have c7_s_0 : w7.cell? ⟨w5.heap.size, 0, none⟩ = some (.int .i64 6) := cell_keep bb7 c6_s_0
  have c7_s_1 : w7.cell? ⟨w5.heap.size, 1, none⟩ = some (.int .i64 0) := cell_keep bb7 c6_s_1
  have c7_s_2 : w7.cell? ⟨w5.heap.size, 2, none⟩ = some (.int .i64 0) := cell_keep bb7 c6_s_2
  have c7_s_3 : w7.cell? ⟨w5.heap.size, 3, none⟩ = some (.bool false) := cell_keep bb7 c6_s_3
  have c7_s_4 : w7.cell? ⟨w5.heap.size, 4, none⟩ = some (.slice (some ⟨w4.heap.size, 0, none⟩) 1 1) := cell_keep bb7 c6_s_4
  have l7_s : w5.heap.size < w7.heap.size := by omega
  have m7_s : w5.heap.size < w7.heap.size + 1 := by omega
  have HT7 := Lib.hid (HT6.out.below bb7)
  have HC7 := Lib.hid (HC6.out.below bb7)
  have HL7 := Lib.hid (HL6.out.below bb7)
  have HE7 := Lib.hid (HE6.out.below bb7)
  have HST7 := Lib.hid (HST6.out.below bb7)
  have BE7 := Lib.hid be7
  clear be7 bb7 BE6 c6_t_0 c6_t_1 c6_t_2 c6_t_3 c6_t_4 l6_t m6_t c6_c_0 c6_c_1 c6_c_2 c6_c_3 c6_c_4 c6_c_5 c6_c_6 c6_c_7 l6_c m6_c c6_s_0 c6_s_1 c6_s_2 c6_s_3 c6_s_4 l6_s m6_s HT6 HC6 HL6 HE6 HST6
  go_wp2_with fail
  refine wp_region_held_drew (S := (fun w' => Below w7.heap.size w7 w' ∧ ∀ b o, b < w7.heap.size → w'.cell? ⟨b, o, none⟩ = w7.cell? ⟨b, o, none⟩)) (by kernel_rfl) (holdS (Below.drew (Below.refl _ _))) (fun hHeld => ?_)
  refine wpAnyH_take (i := 0) (v := ?_) rfl (by kernel_rfl) (by kernel_rfl) (by kernel_rfl) (fun _ _ _ h => h) (Or.inl ⟨by rfl, ?hy⟩) (by assumption) ?_
  case hy =>
    intro W hSw
    (try dsimp only at hSw)
    first | (go_simp; done) | (go_simp; with_reducible rfl)
  (try simp only [List.getElem_toArray,  List.getElem_cons_zero, Act.put, List.setIfInBounds_toArray, List.set_cons_zero, List.set_cons_succ])
  refine wpAnyH_take (i := 1) (v := ?_) rfl (by kernel_rfl) (by kernel_rfl) (by kernel_rfl) (fun _ _ _ h => h) (Or.inl ⟨by rfl, ?hy⟩) (by assumption) ?_
  case hy =>
    intro W hSw
    (try dsimp only at hSw)
    first | (go_simp; done) | (go_simp; with_reducible rfl)
  (try simp only [List.getElem_toArray, List.getElem_cons_succ,  List.getElem_cons_zero, Act.put, List.setIfInBounds_toArray, List.set_cons_zero, List.set_cons_succ])
  refine wpAnyH_take (i := 2) (v := ?_) rfl (by kernel_rfl) (by kernel_rfl) (by kernel_rfl) (fun _ _ _ h => h) (Or.inl ⟨by rfl, ?hy⟩) (by assumption) ?_
  case hy =>
    intro W hSw
    (try dsimp only at hSw)
    first | (go_simp; done) | (go_simp; with_reducible rfl)
  (try simp only [List.getElem_toArray, List.getElem_cons_succ,  List.getElem_cons_zero, Act.put, List.setIfInBounds_toArray, List.set_cons_zero, List.set_cons_succ])
  refine wpAnyH_take (i := 3) (v := ?_) rfl (by kernel_rfl) (by kernel_rfl) (by kernel_rfl) (fun _ _ _ h => h) (Or.inl ⟨by rfl, ?hy⟩) (by assumption) ?_
  case hy =>
    intro W hSw
    (try dsimp only at hSw)
    first | (go_simp; done) | (go_simp; with_reducible rfl)
  (try simp only [List.getElem_toArray, List.getElem_cons_succ,  List.getElem_cons_zero, Act.put, List.setIfInBounds_toArray, List.set_cons_zero, List.set_cons_succ])
  refine wpAnyH_take (i := 4) (v := ?_) rfl (by kernel_rfl) (by kernel_rfl) (by kernel_rfl) (fun _ _ _ h => h) (Or.inl ⟨by rfl, ?hy⟩) (by assumption) ?_
  case hy =>
    intro W hSw
    (try dsimp only at hSw)
    first | (go_simp; done) | (go_simp; with_reducible rfl)
  (try simp only [List.getElem_toArray, List.getElem_cons_succ,  List.getElem_cons_zero, Act.put, List.setIfInBounds_toArray, List.set_cons_zero, List.set_cons_succ])
  refine wpAnyH_take (i := 7) (v := ?_) rfl (by kernel_rfl) (by kernel_rfl) (by kernel_rfl) (fun _ _ _ h => h) (Or.inl ⟨by rfl, ?hy⟩) (by assumption) ?_
  case hy =>
    intro W hSw
    (try dsimp only at hSw)
    first | (go_simp; done) | (go_simp; with_reducible rfl)
  (try simp only [List.getElem_toArray, List.getElem_cons_succ,  List.getElem_cons_zero, Act.put, List.setIfInBounds_toArray, List.set_cons_zero, List.set_cons_succ])
  refine wpAnyH_take (i := 8) (v := ?_) rfl (by kernel_rfl) (by kernel_rfl) (by kernel_rfl) (fun _ _ _ h => h) (Or.inl ⟨by rfl, ?hy⟩) (by assumption) ?_
  case hy =>
    intro W hSw
    (try dsimp only at hSw)
    first | (go_simp; done) | (go_simp; with_reducible rfl)
  (try simp only [List.getElem_toArray, List.getElem_cons_succ,  List.getElem_cons_zero, Act.put, List.setIfInBounds_toArray, List.set_cons_zero, List.set_cons_succ])
  refine wpAnyH_ready (rs := [5]) (by kernel_rfl) (by simp) ?_
  refine AllReadyH.cons rfl (fun K hK => ?_) AllReadyH.nil
  go_simp
  refine hK.out _ _ (holdS (by repeat (first | exact Below.refl _ _ | assumption | refine below_drewN ?_ _ | refine Below.setCell ?_ (by first | (simp; done) | (simp; omega)) _ | refine Below.alloc ?_ (by first | (simp; done) | (simp; omega) | omega) _ | refine Below.drew ?_ | refine Below.trans ?_ (Below.mono (by assumption) (by first | (simp; done) | (simp; omega) | omega))))) (fun hHeld => ?_)
  clear hK K
  obtain ⟨x1, hx1⟩ : ∃ x, x = (w7.alloc (.cells #[.int .i64 6, .int .i64 0, .int .i64 0, .bool false, .slice (some ⟨w4.heap.size, 0, none⟩) 1 1] 24)).drew := ⟨_, rfl⟩
  have g1 : x1.heap[w7.heap.size]? = some (.cells #[.int .i64 6, .int .i64 0, .int .i64 0, .bool false, .slice (some ⟨w4.heap.size, 0, none⟩) 1 1] 24 (0, 0)) := by rw [hx1]; exact World.alloc_heap_new _ _
  have bx1 : Below w7.heap.size w7 x1 := by rw [hx1]; exact (by repeat (first | exact Below.refl _ _ | assumption | refine below_drewN ?_ _ | refine Below.setCell ?_ (by first | (simp; done) | (simp; omega)) _ | refine Below.alloc ?_ (by first | (simp; done) | (simp; omega) | omega) _ | refine Below.drew ?_ | refine Below.trans ?_ (Below.mono (by assumption) (by first | (simp; done) | (simp; omega) | omega))))
  rw [← hx1] at hHeld ⊢
  clear hx1
  (try simp only [List.getElem_toArray, List.getElem_cons_succ,  List.getElem_cons_zero, Act.put, List.setIfInBounds_toArray, List.set_cons_zero, List.set_cons_succ])
  refine wpAnyH_ready (rs := [6]) (by kernel_rfl) (by simp) ?_
  refine AllReadyH.cons rfl (fun K hK => ?_) AllReadyH.nil
  go_simp
  simp only [HW1.out, HW3.out]
  refine (of_calls 4 (m + n + 1) true _ 1 1 _).mono ?_
  rintro e' v1 ⟨rfl, hv1⟩
  go_wp2_with fail
  refine hK.out _ _ (holdT (by assumption) hv1) (fun hHeld => ?_)
  clear hK K
  (try simp only [List.getElem_toArray, List.getElem_cons_succ,  List.getElem_cons_zero, Act.put, List.setIfInBounds_toArray, List.set_cons_zero, List.set_cons_succ])
  have g1 := (hv1.block _ (Array.getElem?_eq_some_iff.1 g1).1).trans g1
  refine wpAnyH_ready (rs := [9]) (by kernel_rfl) (by simp) ?_
  refine AllReadyH.cons rfl (fun K hK => ?_) AllReadyH.nil
  go_simp
  refine (eval_at (.node 4 (m + n + 1) 0 true (some ⟨w7.heap.size, 0, none⟩) 1 [.node 6 0 0 false (some ⟨w4.heap.size, 0, none⟩) 1 [t]]) c q capq l _ (tat_one ⟨cell_at g1 rfl, cell_at g1 rfl, cell_at g1 rfl, cell_at g1 rfl, cell_at g1 rfl⟩ (HST7.out.below hHeld.1)) (HC7.out.below hHeld.1) (HL7.out.below hHeld.1) (by omega) (HE7.out.below hHeld.1)).mono ?_
  rintro e' w8 ⟨rfl, hv2⟩
  rw [HF.out]
  simp only [R3]
  go_wp2_with fail
  refine hK.out _ _ (holdT (by assumption) hv2) (fun hHeld => ?_)
  clear hK K
  (try simp only [List.getElem_toArray, List.getElem_cons_succ,  List.getElem_cons_zero, Act.put, List.setIfInBounds_toArray, List.set_cons_zero, List.set_cons_succ])
  clear g1 bx1 hv1
  refine wpAnyH_take (i := 10) (v := ?_) rfl (by kernel_rfl) (by kernel_rfl) (by kernel_rfl) (fun _ _ _ h => h) (Or.inl ⟨by rfl, ?hy⟩) (by assumption) ?_
  case hy =>
    intro W hSw
    (try dsimp only at hSw)
    first | (go_simp; done) | (go_simp; with_reducible rfl)
  (try simp only [List.getElem_toArray, List.getElem_cons_succ,  List.getElem_cons_zero, Act.put, List.setIfInBounds_toArray, List.set_cons_zero, List.set_cons_succ])
  refine wpAnyH_take (i := 11) (v := ?_) rfl (by kernel_rfl) (by kernel_rfl) (by kernel_rfl) (fun _ _ _ h => h) (Or.inl ⟨by rfl, ?hy⟩) (by assumption) ?_
  case hy =>
    intro W hSw
    (try dsimp only at hSw)
    first | (go_simp; done) | (go_simp; with_reducible rfl)
  (try simp only [List.getElem_toArray, List.getElem_cons_succ,  List.getElem_cons_zero, Act.put, List.setIfInBounds_toArray, List.set_cons_zero, List.set_cons_succ])
  refine wpAnyH_take (i := 12) (v := ?_) rfl (by kernel_rfl) (by kernel_rfl) (by kernel_rfl) (fun _ _ _ h => h) (Or.inl ⟨by rfl, ?hy⟩) (by assumption) ?_
  case hy =>
    intro W hSw
    (try dsimp only at hSw)
    first | (go_simp; done) | (go_simp; with_reducible rfl)
  (try simp only [List.getElem_toArray, List.getElem_cons_succ,  List.getElem_cons_zero, Act.put, List.setIfInBounds_toArray, List.set_cons_zero, List.set_cons_succ])
  refine wpAnyH_take (i := 13) (v := ?_) rfl (by kernel_rfl) (by kernel_rfl) (by kernel_rfl) (fun _ _ _ h => h) (Or.inl ⟨by rfl, ?hy⟩) (by assumption) ?_
  case hy =>
    intro W hSw
    (try dsimp only at hSw)
    first | (go_simp; done) | (go_simp; with_reducible rfl)
  (try simp only [List.getElem_toArray, List.getElem_cons_succ,  List.getElem_cons_zero, Act.put, List.setIfInBounds_toArray, List.set_cons_zero, List.set_cons_succ])
  refine wpAnyH_take (i := 14) (v := ?_) rfl (by kernel_rfl) (by kernel_rfl) (by kernel_rfl) (fun _ _ _ h => h) (Or.inl ⟨by rfl, ?hy⟩) (by assumption) ?_
  case hy =>
    intro W hSw
    (try dsimp only at hSw)
    first | (go_simp; done) | (go_simp; with_reducible rfl)
  (try simp only [List.getElem_toArray, List.getElem_cons_succ,  List.getElem_cons_zero, Act.put, List.setIfInBounds_toArray, List.set_cons_zero, List.set_cons_succ])
  refine wpAnyH_take (i := 15) (v := ?_) rfl (by kernel_rfl) (by kernel_rfl) (by kernel_rfl) (fun _ _ _ h => h) (Or.inl ⟨by rfl, ?hy⟩) (by assumption) ?_
  case hy =>
    intro W hSw
    (try dsimp only at hSw)
    first | (go_simp; done) | (go_simp; with_reducible rfl)
  (try simp only [List.getElem_toArray, List.getElem_cons_succ,  List.getElem_cons_zero, Act.put, List.setIfInBounds_toArray, List.set_cons_zero, List.set_cons_succ])
  refine wpAnyH_take (i := 16) (v := ?_) rfl (by kernel_rfl) (by kernel_rfl) (by kernel_rfl) (fun _ _ _ h => h) (Or.inl ⟨by rfl, ?hy⟩) (by assumption) ?_
  case hy =>
    intro W hSw
    (try dsimp only at hSw)
    first | (go_simp; done) | (go_simp; with_reducible rfl)
  (try simp only [List.getElem_toArray, List.getElem_cons_succ,  List.getElem_cons_zero, Act.put, List.setIfInBounds_toArray, List.set_cons_zero, List.set_cons_succ])
  refine wpAnyH_done (by kernel_rfl) ?_ _
  have bb8 : Below w7.heap.size w7 w8 := hHeld.1
  have hz8 := bb8.size
  clear hHeld hv2
  have be8 : Below w.heap.size w w8 := BE7.out.trans (bb8.mono BE7.out.size)
  have c8_t_0 : w8.cell? ⟨w.heap.size, 0, none⟩ = some (.int .i64 t.kd) := cell_keep bb8 c7_t_0
  have c8_t_1 : w8.cell? ⟨w.heap.size, 1, none⟩ = some (.int .i64 t.n) := cell_keep bb8 c7_t_1
  have c8_t_2 : w8.cell? ⟨w.heap.size, 2, none⟩ = some (.int .i64 t.ev) := cell_keep bb8 c7_t_2
  have c8_t_3 : w8.cell? ⟨w.heap.size, 3, none⟩ = some (.bool t.bz) := cell_keep bb8 c7_t_3
  have c8_t_4 : w8.cell? ⟨w.heap.size, 4, none⟩ = some (.slice t.p t.kids.length t.cap) := cell_keep bb8 c7_t_4
  have l8_t : w.heap.size < w8.heap.size := by omega
  have m8_t : w.heap.size < w8.heap.size + 1 := by omega
  have c8_c_0 : w8.cell? ⟨w.heap.size + 1, 0, none⟩ = some (.bool c.b0) := cell_keep bb8 c7_c_0
  have c8_c_1 : w8.cell? ⟨w.heap.size + 1, 1, none⟩ = some (.bool c.b1) := cell_keep bb8 c7_c_1
  have c8_c_2 : w8.cell? ⟨w.heap.size + 1, 2, none⟩ = some (.bool c.b2) := cell_keep bb8 c7_c_2
  have c8_c_3 : w8.cell? ⟨w.heap.size + 1, 3, none⟩ = some (.bool c.b3) := cell_keep bb8 c7_c_3
  have c8_c_4 : w8.cell? ⟨w.heap.size + 1, 4, none⟩ = some (.bool c.b4) := cell_keep bb8 c7_c_4
  have c8_c_5 : w8.cell? ⟨w.heap.size + 1, 5, none⟩ = some (.bool c.b5) := cell_keep bb8 c7_c_5
  have c8_c_6 : w8.cell? ⟨w.heap.size + 1, 6, none⟩ = some (.bool c.b6) := cell_keep bb8 c7_c_6
  have c8_c_7 : w8.cell? ⟨w.heap.size + 1, 7, none⟩ = some (.slice c.p c.hs.length c.cap) := cell_keep bb8 c7_c_7
  have l8_c : w.heap.size + 1 < w8.heap.size := by omega
  have m8_c : w.heap.size + 1 < w8.heap.size + 1 := by omega
  have c8_s_0 : w8.cell? ⟨w5.heap.size, 0, none⟩ = some (.int .i64 6) := cell_keep bb8 c7_s_0
  have c8_s_1 : w8.cell? ⟨w5.heap.size, 1, none⟩ = some (.int .i64 0) := cell_keep bb8 c7_s_1
  have c8_s_2 : w8.cell? ⟨w5.heap.size, 2, none⟩ = some (.int .i64 0) := cell_keep bb8 c7_s_2
  have c8_s_3 : w8.cell? ⟨w5.heap.size, 3, none⟩ = some (.bool false) := cell_keep bb8 c7_s_3
  have c8_s_4 : w8.cell? ⟨w5.heap.size, 4, none⟩ = some (.slice (some ⟨w4.heap.size, 0, none⟩) 1 1) := cell_keep bb8 c7_s_4
  have l8_s : w5.heap.size < w8.heap.size := by omega
  have m8_s : w5.heap.size < w8.heap.size + 1 := by omega
  have HT8 := Lib.hid (HT7.out.below bb8)
  have HC8 := Lib.hid (HC7.out.below bb8)
  have HL8 := Lib.hid (HL7.out.below bb8)
  have HE8 := Lib.hid (HE7.out.below bb8)
  have HST8 := Lib.hid (HST7.out.below bb8)
  have BE8 := Lib.hid be8
  clear be8 bb8 BE7 c7_t_0 c7_t_1 c7_t_2 c7_t_3 c7_t_4 l7_t m7_t c7_c_0 c7_c_1 c7_c_2 c7_c_3 c7_c_4 c7_c_5 c7_c_6 c7_c_7 l7_c m7_c c7_s_0 c7_s_1 c7_s_2 c7_s_3 c7_s_4 l7_s m7_s HT7 HC7 HL7 HE7 HST7
  go_wp2_with fail
  refine wp_region_held_drew (S := (fun w' => Below w8.heap.size w8 w' ∧ ∀ b o, b < w8.heap.size → w'.cell? ⟨b, o, none⟩ = w8.cell? ⟨b, o, none⟩)) (by kernel_rfl) (holdS (Below.drew (Below.refl _ _))) (fun hHeld => ?_)
  refine wpAnyH_take (i := 0) (v := ?_) rfl (by kernel_rfl) (by kernel_rfl) (by kernel_rfl) (fun _ _ _ h => h) (Or.inl ⟨by rfl, ?hy⟩) (by assumption) ?_
  case hy =>
    intro W hSw
    (try dsimp only at hSw)
    first | (go_simp; done) | (go_simp; with_reducible rfl)
  (try simp only [List.getElem_toArray,  List.getElem_cons_zero, Act.put, List.setIfInBounds_toArray, List.set_cons_zero, List.set_cons_succ])
  refine wpAnyH_take (i := 3) (v := ?_) rfl (by kernel_rfl) (by kernel_rfl) (by kernel_rfl) (fun _ _ _ h => h) (Or.inl ⟨by rfl, ?hy⟩) (by assumption) ?_
  case hy =>
    intro W hSw
    (try dsimp only at hSw)
    first | (go_simp; done) | (go_simp; with_reducible rfl)
  (try simp only [List.getElem_toArray, List.getElem_cons_succ,  List.getElem_cons_zero, Act.put, List.setIfInBounds_toArray, List.set_cons_zero, List.set_cons_succ])
  refine wpAnyH_take (i := 4) (v := ?_) rfl (by kernel_rfl) (by kernel_rfl) (by kernel_rfl) (fun _ _ _ h => h) (Or.inl ⟨by rfl, ?hy⟩) (by assumption) ?_
  case hy =>
    intro W hSw
    (try dsimp only at hSw)
    first | (go_simp; done) | (go_simp; with_reducible rfl)
  (try simp only [List.getElem_toArray, List.getElem_cons_succ,  List.getElem_cons_zero, Act.put, List.setIfInBounds_toArray, List.set_cons_zero, List.set_cons_succ])
  refine wpAnyH_ready (rs := [1]) (by kernel_rfl) (by simp) ?_
  refine AllReadyH.cons rfl (fun K hK => ?_) AllReadyH.nil
  go_simp
  refine hK.out _ _ (holdS (by repeat (first | exact Below.refl _ _ | assumption | refine below_drewN ?_ _ | refine Below.setCell ?_ (by first | (simp; done) | (simp; omega)) _ | refine Below.alloc ?_ (by first | (simp; done) | (simp; omega) | omega) _ | refine Below.drew ?_ | refine Below.trans ?_ (Below.mono (by assumption) (by first | (simp; done) | (simp; omega) | omega))))) (fun hHeld => ?_)
  clear hK K
  obtain ⟨x1, hx1⟩ : ∃ x, x = (w8.alloc (.cells #[.int .i64 t.kd, .int .i64 t.n, .int .i64 t.ev, .bool t.bz, .slice t.p t.kids.length t.cap] 24)).drew := ⟨_, rfl⟩
  have g1 : x1.heap[w8.heap.size]? = some (.cells #[.int .i64 t.kd, .int .i64 t.n, .int .i64 t.ev, .bool t.bz, .slice t.p t.kids.length t.cap] 24 (0, 0)) := by rw [hx1]; exact World.alloc_heap_new _ _
  have bx1 : Below w8.heap.size w8 x1 := by rw [hx1]; exact (by repeat (first | exact Below.refl _ _ | assumption | refine below_drewN ?_ _ | refine Below.setCell ?_ (by first | (simp; done) | (simp; omega)) _ | refine Below.alloc ?_ (by first | (simp; done) | (simp; omega) | omega) _ | refine Below.drew ?_ | refine Below.trans ?_ (Below.mono (by assumption) (by first | (simp; done) | (simp; omega) | omega))))
  rw [← hx1] at hHeld ⊢
  clear hx1
  (try simp only [List.getElem_toArray, List.getElem_cons_succ,  List.getElem_cons_zero, Act.put, List.setIfInBounds_toArray, List.set_cons_zero, List.set_cons_succ])
  refine wpAnyH_ready (rs := [2]) (by kernel_rfl) (by simp) ?_
  refine AllReadyH.cons rfl (fun K hK => ?_) AllReadyH.nil
  go_simp
  refine (of_calls 4 0 true _ 1 1 _).mono ?_
  rintro e' v1 ⟨rfl, hv1⟩
  go_wp2_with fail
  refine hK.out _ _ (holdT (by assumption) hv1) (fun hHeld => ?_)
  clear hK K
  (try simp only [List.getElem_toArray, List.getElem_cons_succ,  List.getElem_cons_zero, Act.put, List.setIfInBounds_toArray, List.set_cons_zero, List.set_cons_succ])
  have g1 := (hv1.block _ (Array.getElem?_eq_some_iff.1 g1).1).trans g1
  refine wpAnyH_ready (rs := [5]) (by kernel_rfl) (by simp) ?_
  refine AllReadyH.cons rfl (fun K hK => ?_) AllReadyH.nil
  go_simp
  refine (eval_at (.node 4 0 0 true (some ⟨w8.heap.size, 0, none⟩) 1 [t]) c q capq l _ (tat_one ⟨cell_at g1 rfl, cell_at g1 rfl, cell_at g1 rfl, cell_at g1 rfl, cell_at g1 rfl⟩ (HT8.out.below hHeld.1)) (HC8.out.below hHeld.1) (HL8.out.below hHeld.1) (by omega) (HE8.out.below hHeld.1)).mono ?_
  rintro e' w9 ⟨rfl, hv2⟩
  rw [HG.out]
  simp only [R3]
  go_wp2_with fail
  refine hK.out _ _ (holdT (by assumption) hv2) (fun hHeld => ?_)
  clear hK K
  (try simp only [List.getElem_toArray, List.getElem_cons_succ,  List.getElem_cons_zero, Act.put, List.setIfInBounds_toArray, List.set_cons_zero, List.set_cons_succ])
  clear g1 bx1 hv1
  refine wpAnyH_take (i := 6) (v := ?_) rfl (by kernel_rfl) (by kernel_rfl) (by kernel_rfl) (fun _ _ _ h => h) (Or.inl ⟨by rfl, ?hy⟩) (by assumption) ?_
  case hy =>
    intro W hSw
    (try dsimp only at hSw)
    first | (go_simp; done) | (go_simp; with_reducible rfl)
  (try simp only [List.getElem_toArray, List.getElem_cons_succ,  List.getElem_cons_zero, Act.put, List.setIfInBounds_toArray, List.set_cons_zero, List.set_cons_succ])
  refine wpAnyH_take (i := 7) (v := ?_) rfl (by kernel_rfl) (by kernel_rfl) (by kernel_rfl) (fun _ _ _ h => h) (Or.inl ⟨by rfl, ?hy⟩) (by assumption) ?_
  case hy =>
    intro W hSw
    (try dsimp only at hSw)
    first | (go_simp; done) | (go_simp; with_reducible rfl)
  (try simp only [List.getElem_toArray, List.getElem_cons_succ,  List.getElem_cons_zero, Act.put, List.setIfInBounds_toArray, List.set_cons_zero, List.set_cons_succ])
  refine wpAnyH_take (i := 8) (v := ?_) rfl (by kernel_rfl) (by kernel_rfl) (by kernel_rfl) (fun _ _ _ h => h) (Or.inl ⟨by rfl, ?hy⟩) (by assumption) ?_
  case hy =>
    intro W hSw
    (try dsimp only at hSw)
    first | (go_simp; done) | (go_simp; with_reducible rfl)
  (try simp only [List.getElem_toArray, List.getElem_cons_succ,  List.getElem_cons_zero, Act.put, List.setIfInBounds_toArray, List.set_cons_zero, List.set_cons_succ])
  refine wpAnyH_take (i := 9) (v := ?_) rfl (by kernel_rfl) (by kernel_rfl) (by kernel_rfl) (fun _ _ _ h => h) (Or.inl ⟨by rfl, ?hy⟩) (by assumption) ?_
  case hy =>
    intro W hSw
    (try dsimp only at hSw)
    first | (go_simp; done) | (go_simp; with_reducible rfl)
  (try simp only [List.getElem_toArray, List.getElem_cons_succ,  List.getElem_cons_zero, Act.put, List.setIfInBounds_toArray, List.set_cons_zero, List.set_cons_succ])
  refine wpAnyH_take (i := 10) (v := ?_) rfl (by kernel_rfl) (by kernel_rfl) (by kernel_rfl) (fun _ _ _ h => h) (Or.inl ⟨by rfl, ?hy⟩) (by assumption) ?_
  case hy =>
    intro W hSw
    (try dsimp only at hSw)
    first | (go_simp; done) | (go_simp; with_reducible rfl)
  (try simp only [List.getElem_toArray, List.getElem_cons_succ,  List.getElem_cons_zero, Act.put, List.setIfInBounds_toArray, List.set_cons_zero, List.set_cons_succ])
  refine wpAnyH_take (i := 11) (v := ?_) rfl (by kernel_rfl) (by kernel_rfl) (by kernel_rfl) (fun _ _ _ h => h) (Or.inl ⟨by rfl, ?hy⟩) (by assumption) ?_
  case hy =>
    intro W hSw
    (try dsimp only at hSw)
    first | (go_simp; done) | (go_simp; with_reducible rfl)
  (try simp only [List.getElem_toArray, List.getElem_cons_succ,  List.getElem_cons_zero, Act.put, List.setIfInBounds_toArray, List.set_cons_zero, List.set_cons_succ])
  refine wpAnyH_take (i := 12) (v := ?_) rfl (by kernel_rfl) (by kernel_rfl) (by kernel_rfl) (fun _ _ _ h => h) (Or.inl ⟨by rfl, ?hy⟩) (by assumption) ?_
  case hy =>
    intro W hSw
    (try dsimp only at hSw)
    first | (go_simp; done) | (go_simp; with_reducible rfl)
  (try simp only [List.getElem_toArray, List.getElem_cons_succ,  List.getElem_cons_zero, Act.put, List.setIfInBounds_toArray, List.set_cons_zero, List.set_cons_succ])
  refine wpAnyH_done (by kernel_rfl) ?_ _
  have bb9 : Below w8.heap.size w8 w9 := hHeld.1
  have hz9 := bb9.size
  clear hHeld hv2
  have be9 : Below w.heap.size w w9 := BE8.out.trans (bb9.mono BE8.out.size)
  have c9_t_0 : w9.cell? ⟨w.heap.size, 0, none⟩ = some (.int .i64 t.kd) := cell_keep bb9 c8_t_0
  have c9_t_1 : w9.cell? ⟨w.heap.size, 1, none⟩ = some (.int .i64 t.n) := cell_keep bb9 c8_t_1
  have c9_t_2 : w9.cell? ⟨w.heap.size, 2, none⟩ = some (.int .i64 t.ev) := cell_keep bb9 c8_t_2
  have c9_t_3 : w9.cell? ⟨w.heap.size, 3, none⟩ = some (.bool t.bz) := cell_keep bb9 c8_t_3
  have c9_t_4 : w9.cell? ⟨w.heap.size, 4, none⟩ = some (.slice t.p t.kids.length t.cap) := cell_keep bb9 c8_t_4
  have l9_t : w.heap.size < w9.heap.size := by omega
  have m9_t : w.heap.size < w9.heap.size + 1 := by omega
  have c9_c_0 : w9.cell? ⟨w.heap.size + 1, 0, none⟩ = some (.bool c.b0) := cell_keep bb9 c8_c_0
  have c9_c_1 : w9.cell? ⟨w.heap.size + 1, 1, none⟩ = some (.bool c.b1) := cell_keep bb9 c8_c_1
  have c9_c_2 : w9.cell? ⟨w.heap.size + 1, 2, none⟩ = some (.bool c.b2) := cell_keep bb9 c8_c_2
  have c9_c_3 : w9.cell? ⟨w.heap.size + 1, 3, none⟩ = some (.bool c.b3) := cell_keep bb9 c8_c_3
  have c9_c_4 : w9.cell? ⟨w.heap.size + 1, 4, none⟩ = some (.bool c.b4) := cell_keep bb9 c8_c_4
  have c9_c_5 : w9.cell? ⟨w.heap.size + 1, 5, none⟩ = some (.bool c.b5) := cell_keep bb9 c8_c_5
  have c9_c_6 : w9.cell? ⟨w.heap.size + 1, 6, none⟩ = some (.bool c.b6) := cell_keep bb9 c8_c_6
  have c9_c_7 : w9.cell? ⟨w.heap.size + 1, 7, none⟩ = some (.slice c.p c.hs.length c.cap) := cell_keep bb9 c8_c_7
  have l9_c : w.heap.size + 1 < w9.heap.size := by omega
  have m9_c : w.heap.size + 1 < w9.heap.size + 1 := by omega
  have c9_s_0 : w9.cell? ⟨w5.heap.size, 0, none⟩ = some (.int .i64 6) := cell_keep bb9 c8_s_0
  have c9_s_1 : w9.cell? ⟨w5.heap.size, 1, none⟩ = some (.int .i64 0) := cell_keep bb9 c8_s_1
  have c9_s_2 : w9.cell? ⟨w5.heap.size, 2, none⟩ = some (.int .i64 0) := cell_keep bb9 c8_s_2
  have c9_s_3 : w9.cell? ⟨w5.heap.size, 3, none⟩ = some (.bool false) := cell_keep bb9 c8_s_3
  have c9_s_4 : w9.cell? ⟨w5.heap.size, 4, none⟩ = some (.slice (some ⟨w4.heap.size, 0, none⟩) 1 1) := cell_keep bb9 c8_s_4
  have l9_s : w5.heap.size < w9.heap.size := by omega
  have m9_s : w5.heap.size < w9.heap.size + 1 := by omega
  have HT9 := Lib.hid (HT8.out.below bb9)
  have HC9 := Lib.hid (HC8.out.below bb9)
  have HL9 := Lib.hid (HL8.out.below bb9)
  have HE9 := Lib.hid (HE8.out.below bb9)
  have HST9 := Lib.hid (HST8.out.below bb9)
  have BE9 := Lib.hid be9
  clear be9 bb9 BE8 c8_t_0 c8_t_1 c8_t_2 c8_t_3 c8_t_4 l8_t m8_t c8_c_0 c8_c_1 c8_c_2 c8_c_3 c8_c_4 c8_c_5 c8_c_6 c8_c_7 l8_c m8_c c8_s_0 c8_s_1 c8_s_2 c8_s_3 c8_s_4 l8_s m8_s HT8 HC8 HL8 HE8 HST8
  go_wp2_with fail
  refine (eval_at (.node 6 0 0 false (some ⟨w4.heap.size, 0, none⟩) 1 [t]) c q capq l _ (HST9.out.below (by repeat (first | exact Below.refl _ _ | assumption | refine below_drewN ?_ _ | refine Below.setCell ?_ (by first | (simp; done) | (simp; omega)) _ | refine Below.alloc ?_ (by first | (simp; done) | (simp; omega) | omega) _ | refine Below.drew ?_ | refine Below.trans ?_ (Below.mono (by assumption) (by first | (simp; done) | (simp; omega) | omega))))) (HC9.out.below (by repeat (first | exact Below.refl _ _ | assumption | refine below_drewN ?_ _ | refine Below.setCell ?_ (by first | (simp; done) | (simp; omega)) _ | refine Below.alloc ?_ (by first | (simp; done) | (simp; omega) | omega) _ | refine Below.drew ?_ | refine Below.trans ?_ (Below.mono (by assumption) (by first | (simp; done) | (simp; omega) | omega))))) (HL9.out.below (by repeat (first | exact Below.refl _ _ | assumption | refine below_drewN ?_ _ | refine Below.setCell ?_ (by first | (simp; done) | (simp; omega)) _ | refine Below.alloc ?_ (by first | (simp; done) | (simp; omega) | omega) _ | refine Below.drew ?_ | refine Below.trans ?_ (Below.mono (by assumption) (by first | (simp; done) | (simp; omega) | omega))))) (by omega) (HE9.out.below (by repeat (first | exact Below.refl _ _ | assumption | refine below_drewN ?_ _ | refine Below.setCell ?_ (by first | (simp; done) | (simp; omega)) _ | refine Below.alloc ?_ (by first | (simp; done) | (simp; omega) | omega) _ | refine Below.drew ?_ | refine Below.trans ?_ (Below.mono (by assumption) (by first | (simp; done) | (simp; omega) | omega)))))).mono ?_
  rintro e w10 ⟨rfl, hb10⟩
  rw [HH.out]
  simp only [R3]
  have hz10 := hb10.size
  (try simp at hz10)
  have bb10 : Below w9.heap.size w9 w10 := (by repeat (first | exact Below.refl _ _ | assumption | refine below_drewN ?_ _ | refine Below.setCell ?_ (by first | (simp; done) | (simp; omega)) _ | refine Below.alloc ?_ (by first | (simp; done) | (simp; omega) | omega) _ | refine Below.drew ?_ | refine Below.trans ?_ (Below.mono (by assumption) (by first | (simp; done) | (simp; omega) | omega))))
  have be10 : Below w.heap.size w w10 := BE9.out.trans (bb10.mono BE9.out.size)
  have c10_t_0 : w10.cell? ⟨w.heap.size, 0, none⟩ = some (.int .i64 t.kd) := cell_keep bb10 c9_t_0
  have c10_t_1 : w10.cell? ⟨w.heap.size, 1, none⟩ = some (.int .i64 t.n) := cell_keep bb10 c9_t_1
  have c10_t_2 : w10.cell? ⟨w.heap.size, 2, none⟩ = some (.int .i64 t.ev) := cell_keep bb10 c9_t_2
  have c10_t_3 : w10.cell? ⟨w.heap.size, 3, none⟩ = some (.bool t.bz) := cell_keep bb10 c9_t_3
  have c10_t_4 : w10.cell? ⟨w.heap.size, 4, none⟩ = some (.slice t.p t.kids.length t.cap) := cell_keep bb10 c9_t_4
  have l10_t : w.heap.size < w10.heap.size := by omega
  have m10_t : w.heap.size < w10.heap.size + 1 := by omega
  have c10_c_0 : w10.cell? ⟨w.heap.size + 1, 0, none⟩ = some (.bool c.b0) := cell_keep bb10 c9_c_0
  have c10_c_1 : w10.cell? ⟨w.heap.size + 1, 1, none⟩ = some (.bool c.b1) := cell_keep bb10 c9_c_1
  have c10_c_2 : w10.cell? ⟨w.heap.size + 1, 2, none⟩ = some (.bool c.b2) := cell_keep bb10 c9_c_2
  have c10_c_3 : w10.cell? ⟨w.heap.size + 1, 3, none⟩ = some (.bool c.b3) := cell_keep bb10 c9_c_3
  have c10_c_4 : w10.cell? ⟨w.heap.size + 1, 4, none⟩ = some (.bool c.b4) := cell_keep bb10 c9_c_4
  have c10_c_5 : w10.cell? ⟨w.heap.size + 1, 5, none⟩ = some (.bool c.b5) := cell_keep bb10 c9_c_5
  have c10_c_6 : w10.cell? ⟨w.heap.size + 1, 6, none⟩ = some (.bool c.b6) := cell_keep bb10 c9_c_6
  have c10_c_7 : w10.cell? ⟨w.heap.size + 1, 7, none⟩ = some (.slice c.p c.hs.length c.cap) := cell_keep bb10 c9_c_7
  have l10_c : w.heap.size + 1 < w10.heap.size := by omega
  have m10_c : w.heap.size + 1 < w10.heap.size + 1 := by omega
  have c10_s_0 : w10.cell? ⟨w5.heap.size, 0, none⟩ = some (.int .i64 6) := cell_keep bb10 c9_s_0
  have c10_s_1 : w10.cell? ⟨w5.heap.size, 1, none⟩ = some (.int .i64 0) := cell_keep bb10 c9_s_1
  have c10_s_2 : w10.cell? ⟨w5.heap.size, 2, none⟩ = some (.int .i64 0) := cell_keep bb10 c9_s_2
  have c10_s_3 : w10.cell? ⟨w5.heap.size, 3, none⟩ = some (.bool false) := cell_keep bb10 c9_s_3
  have c10_s_4 : w10.cell? ⟨w5.heap.size, 4, none⟩ = some (.slice (some ⟨w4.heap.size, 0, none⟩) 1 1) := cell_keep bb10 c9_s_4
  have l10_s : w5.heap.size < w10.heap.size := by omega
  have m10_s : w5.heap.size < w10.heap.size + 1 := by omega
  have HT10 := Lib.hid (HT9.out.below bb10)
  have HC10 := Lib.hid (HC9.out.below bb10)
  have HL10 := Lib.hid (HL9.out.below bb10)
  have HE10 := Lib.hid (HE9.out.below bb10)
  have HST10 := Lib.hid (HST9.out.below bb10)
  have BE10 := Lib.hid be10
  clear be10 bb10 hb10 BE9 c9_t_0 c9_t_1 c9_t_2 c9_t_3 c9_t_4 l9_t m9_t c9_c_0 c9_c_1 c9_c_2 c9_c_3 c9_c_4 c9_c_5 c9_c_6 c9_c_7 l9_c m9_c c9_s_0 c9_s_1 c9_s_2 c9_s_3 c9_s_4 l9_s m9_s HT9 HC9 HL9 HE9 HST9
  rcases HX1.out with rfl | ⟨g1, m9⟩ | ⟨g1, m9, rfl, rfl⟩
  · clear HX1
    rcases HX2.out with rfl | ⟨rfl, rfl, rfl, rfl⟩ | ⟨rfl, rfl, rfl, rfl, hfb⟩ | ⟨rfl, rfl, rfl, rfl, hfb⟩
    · clear HX2
      go_wp2_with fail
      go_ret
      exact ⟨rfl, (by have q := BE10.out; repeat (first | exact q | refine Below.setCell ?_ (by first | (simp; done) | omega | (simp; omega)) _ | refine Below.alloc ?_ (by first | (simp; done) | omega | (simp; omega)) _ | refine below_drewN ?_ _ | refine Below.drew ?_))⟩
    · clear HX2
      go_wp2_with fail
      go_ret
      exact ⟨rfl, (by have q := BE10.out; repeat (first | exact q | refine Below.setCell ?_ (by first | (simp; done) | omega | (simp; omega)) _ | refine Below.alloc ?_ (by first | (simp; done) | omega | (simp; omega)) _ | refine below_drewN ?_ _ | refine Below.drew ?_))⟩
    · have HFB := Lib.hid hfb
      clear hfb HX2
      go_wp2_with fail
      refine (business_calls c _ _ (HC10.out.below (by repeat (first | exact Below.refl _ _ | assumption | refine below_drewN ?_ _ | refine Below.setCell ?_ (by first | (simp; done) | (simp; omega)) _ | refine Below.alloc ?_ (by first | (simp; done) | (simp; omega) | omega) _ | refine Below.drew ?_ | refine Below.trans ?_ (Below.mono (by assumption) (by first | (simp; done) | (simp; omega) | omega)))))).mono ?_
      rintro e w11 ⟨rfl, hb11⟩
      rw [HFB.out]
      have hz11 := hb11.size
      (try simp at hz11)
      have bb11 : Below w10.heap.size w10 w11 := (by repeat (first | exact Below.refl _ _ | assumption | refine below_drewN ?_ _ | refine Below.setCell ?_ (by first | (simp; done) | (simp; omega)) _ | refine Below.alloc ?_ (by first | (simp; done) | (simp; omega) | omega) _ | refine Below.drew ?_ | refine Below.trans ?_ (Below.mono (by assumption) (by first | (simp; done) | (simp; omega) | omega))))
      have be11 : Below w.heap.size w w11 := BE10.out.trans (bb11.mono BE10.out.size)
      have c11_c_0 : w11.cell? ⟨w.heap.size + 1, 0, none⟩ = some (.bool c.b0) := cell_keep bb11 c10_c_0
      have c11_c_1 : w11.cell? ⟨w.heap.size + 1, 1, none⟩ = some (.bool c.b1) := cell_keep bb11 c10_c_1
      have c11_c_2 : w11.cell? ⟨w.heap.size + 1, 2, none⟩ = some (.bool c.b2) := cell_keep bb11 c10_c_2
      have c11_c_3 : w11.cell? ⟨w.heap.size + 1, 3, none⟩ = some (.bool c.b3) := cell_keep bb11 c10_c_3
      have c11_c_4 : w11.cell? ⟨w.heap.size + 1, 4, none⟩ = some (.bool c.b4) := cell_keep bb11 c10_c_4
      have c11_c_5 : w11.cell? ⟨w.heap.size + 1, 5, none⟩ = some (.bool c.b5) := cell_keep bb11 c10_c_5
      have c11_c_6 : w11.cell? ⟨w.heap.size + 1, 6, none⟩ = some (.bool c.b6) := cell_keep bb11 c10_c_6
      have c11_c_7 : w11.cell? ⟨w.heap.size + 1, 7, none⟩ = some (.slice c.p c.hs.length c.cap) := cell_keep bb11 c10_c_7
      have l11_c : w.heap.size + 1 < w11.heap.size := by omega
      have m11_c : w.heap.size + 1 < w11.heap.size + 1 := by omega
      have HT11 := Lib.hid (HT10.out.below bb11)
      have HC11 := Lib.hid (HC10.out.below bb11)
      have HL11 := Lib.hid (HL10.out.below bb11)
      have HE11 := Lib.hid (HE10.out.below bb11)
      have HST11 := Lib.hid (HST10.out.below bb11)
      have BE11 := Lib.hid be11
      clear be11 bb11 hb11 BE10 c10_c_0 c10_c_1 c10_c_2 c10_c_3 c10_c_4 c10_c_5 c10_c_6 c10_c_7 l10_c m10_c HT10 HC10 HL10 HE10 HST10
      go_wp2_with fail
      go_ret
      exact ⟨rfl, (by have q := BE11.out; repeat (first | exact q | refine Below.setCell ?_ (by first | (simp; done) | omega | (simp; omega)) _ | refine Below.alloc ?_ (by first | (simp; done) | omega | (simp; omega)) _ | refine below_drewN ?_ _ | refine Below.drew ?_))⟩
    · have HFB := Lib.hid hfb
      clear hfb HX2
      go_wp2_with fail
      refine (business_calls c _ _ (HC10.out.below (by repeat (first | exact Below.refl _ _ | assumption | refine below_drewN ?_ _ | refine Below.setCell ?_ (by first | (simp; done) | (simp; omega)) _ | refine Below.alloc ?_ (by first | (simp; done) | (simp; omega) | omega) _ | refine Below.drew ?_ | refine Below.trans ?_ (Below.mono (by assumption) (by first | (simp; done) | (simp; omega) | omega)))))).mono ?_
      rintro e w11 ⟨rfl, hb11⟩
      rw [HFB.out]
      have hz11 := hb11.size
      (try simp at hz11)
      have bb11 : Below w10.heap.size w10 w11 := (by repeat (first | exact Below.refl _ _ | assumption | refine below_drewN ?_ _ | refine Below.setCell ?_ (by first | (simp; done) | (simp; omega)) _ | refine Below.alloc ?_ (by first | (simp; done) | (simp; omega) | omega) _ | refine Below.drew ?_ | refine Below.trans ?_ (Below.mono (by assumption) (by first | (simp; done) | (simp; omega) | omega))))
      have be11 : Below w.heap.size w w11 := BE10.out.trans (bb11.mono BE10.out.size)
      have c11_c_0 : w11.cell? ⟨w.heap.size + 1, 0, none⟩ = some (.bool c.b0) := cell_keep bb11 c10_c_0
      have c11_c_1 : w11.cell? ⟨w.heap.size + 1, 1, none⟩ = some (.bool c.b1) := cell_keep bb11 c10_c_1
      have c11_c_2 : w11.cell? ⟨w.heap.size + 1, 2, none⟩ = some (.bool c.b2) := cell_keep bb11 c10_c_2
      have c11_c_3 : w11.cell? ⟨w.heap.size + 1, 3, none⟩ = some (.bool c.b3) := cell_keep bb11 c10_c_3
      have c11_c_4 : w11.cell? ⟨w.heap.size + 1, 4, none⟩ = some (.bool c.b4) := cell_keep bb11 c10_c_4
      have c11_c_5 : w11.cell? ⟨w.heap.size + 1, 5, none⟩ = some (.bool c.b5) := cell_keep bb11 c10_c_5
      have c11_c_6 : w11.cell? ⟨w.heap.size + 1, 6, none⟩ = some (.bool c.b6) := cell_keep bb11 c10_c_6
      have c11_c_7 : w11.cell? ⟨w.heap.size + 1, 7, none⟩ = some (.slice c.p c.hs.length c.cap) := cell_keep bb11 c10_c_7
      have l11_c : w.heap.size + 1 < w11.heap.size := by omega
      have m11_c : w.heap.size + 1 < w11.heap.size + 1 := by omega
      have HT11 := Lib.hid (HT10.out.below bb11)
      have HC11 := Lib.hid (HC10.out.below bb11)
      have HL11 := Lib.hid (HL10.out.below bb11)
      have HE11 := Lib.hid (HE10.out.below bb11)
      have HST11 := Lib.hid (HST10.out.below bb11)
      have BE11 := Lib.hid be11
      clear be11 bb11 hb11 BE10 c10_c_0 c10_c_1 c10_c_2 c10_c_3 c10_c_4 c10_c_5 c10_c_6 c10_c_7 l10_c m10_c HT10 HC10 HL10 HE10 HST10
      go_wp2_with fail
      go_ret
      exact ⟨rfl, (by have q := BE11.out; repeat (first | exact q | refine Below.setCell ?_ (by first | (simp; done) | omega | (simp; omega)) _ | refine Below.alloc ?_ (by first | (simp; done) | omega | (simp; omega)) _ | refine below_drewN ?_ _ | refine Below.drew ?_))⟩
  · clear HX1
    have e9 : decide (m + n < 1000) = false := decide_eq_false (by omega)
    rcases HX2.out with rfl | ⟨rfl, rfl, rfl, rfl⟩ | ⟨rfl, rfl, rfl, rfl, hfb⟩ | ⟨rfl, rfl, rfl, rfl, hfb⟩
    · clear HX2
      go_wp2_with fail
      go_ret
      exact ⟨rfl, (by have q := BE10.out; repeat (first | exact q | refine Below.setCell ?_ (by first | (simp; done) | omega | (simp; omega)) _ | refine Below.alloc ?_ (by first | (simp; done) | omega | (simp; omega)) _ | refine below_drewN ?_ _ | refine Below.drew ?_))⟩
    · clear HX2
      go_wp2_with fail
      go_ret
      exact ⟨rfl, (by have q := BE10.out; repeat (first | exact q | refine Below.setCell ?_ (by first | (simp; done) | omega | (simp; omega)) _ | refine Below.alloc ?_ (by first | (simp; done) | omega | (simp; omega)) _ | refine below_drewN ?_ _ | refine Below.drew ?_))⟩
    · have HFB := Lib.hid hfb
      clear hfb HX2
      go_wp2_with fail
      refine (business_calls c _ _ (HC10.out.below (by repeat (first | exact Below.refl _ _ | assumption | refine below_drewN ?_ _ | refine Below.setCell ?_ (by first | (simp; done) | (simp; omega)) _ | refine Below.alloc ?_ (by first | (simp; done) | (simp; omega) | omega) _ | refine Below.drew ?_ | refine Below.trans ?_ (Below.mono (by assumption) (by first | (simp; done) | (simp; omega) | omega)))))).mono ?_
      rintro e w11 ⟨rfl, hb11⟩
      rw [HFB.out]
      have hz11 := hb11.size
      (try simp at hz11)
      have bb11 : Below w10.heap.size w10 w11 := (by repeat (first | exact Below.refl _ _ | assumption | refine below_drewN ?_ _ | refine Below.setCell ?_ (by first | (simp; done) | (simp; omega)) _ | refine Below.alloc ?_ (by first | (simp; done) | (simp; omega) | omega) _ | refine Below.drew ?_ | refine Below.trans ?_ (Below.mono (by assumption) (by first | (simp; done) | (simp; omega) | omega))))
      have be11 : Below w.heap.size w w11 := BE10.out.trans (bb11.mono BE10.out.size)
      have c11_c_0 : w11.cell? ⟨w.heap.size + 1, 0, none⟩ = some (.bool c.b0) := cell_keep bb11 c10_c_0
      have c11_c_1 : w11.cell? ⟨w.heap.size + 1, 1, none⟩ = some (.bool c.b1) := cell_keep bb11 c10_c_1
      have c11_c_2 : w11.cell? ⟨w.heap.size + 1, 2, none⟩ = some (.bool c.b2) := cell_keep bb11 c10_c_2
      have c11_c_3 : w11.cell? ⟨w.heap.size + 1, 3, none⟩ = some (.bool c.b3) := cell_keep bb11 c10_c_3
      have c11_c_4 : w11.cell? ⟨w.heap.size + 1, 4, none⟩ = some (.bool c.b4) := cell_keep bb11 c10_c_4
      have c11_c_5 : w11.cell? ⟨w.heap.size + 1, 5, none⟩ = some (.bool c.b5) := cell_keep bb11 c10_c_5
      have c11_c_6 : w11.cell? ⟨w.heap.size + 1, 6, none⟩ = some (.bool c.b6) := cell_keep bb11 c10_c_6
      have c11_c_7 : w11.cell? ⟨w.heap.size + 1, 7, none⟩ = some (.slice c.p c.hs.length c.cap) := cell_keep bb11 c10_c_7
      have l11_c : w.heap.size + 1 < w11.heap.size := by omega
      have m11_c : w.heap.size + 1 < w11.heap.size + 1 := by omega
      have HT11 := Lib.hid (HT10.out.below bb11)
      have HC11 := Lib.hid (HC10.out.below bb11)
      have HL11 := Lib.hid (HL10.out.below bb11)
      have HE11 := Lib.hid (HE10.out.below bb11)
      have HST11 := Lib.hid (HST10.out.below bb11)
      have BE11 := Lib.hid be11
      clear be11 bb11 hb11 BE10 c10_c_0 c10_c_1 c10_c_2 c10_c_3 c10_c_4 c10_c_5 c10_c_6 c10_c_7 l10_c m10_c HT10 HC10 HL10 HE10 HST10
      go_wp2_with fail
      go_ret
      exact ⟨rfl, (by have q := BE11.out; repeat (first | exact q | refine Below.setCell ?_ (by first | (simp; done) | omega | (simp; omega)) _ | refine Below.alloc ?_ (by first | (simp; done) | omega | (simp; omega)) _ | refine below_drewN ?_ _ | refine Below.drew ?_))⟩
    · have HFB := Lib.hid hfb
      clear hfb HX2
      go_wp2_with fail
      refine (business_calls c _ _ (HC10.out.below (by repeat (first | exact Below.refl _ _ | assumption | refine below_drewN ?_ _ | refine Below.setCell ?_ (by first | (simp; done) | (simp; omega)) _ | refine Below.alloc ?_ (by first | (simp; done) | (simp; omega) | omega) _ | refine Below.drew ?_ | refine Below.trans ?_ (Below.mono (by assumption) (by first | (simp; done) | (simp; omega) | omega)))))).mono ?_
      rintro e w11 ⟨rfl, hb11⟩
      rw [HFB.out]
      have hz11 := hb11.size
      (try simp at hz11)
      have bb11 : Below w10.heap.size w10 w11 := (by repeat (first | exact Below.refl _ _ | assumption | refine below_drewN ?_ _ | refine Below.setCell ?_ (by first | (simp; done) | (simp; omega)) _ | refine Below.alloc ?_ (by first | (simp; done) | (simp; omega) | omega) _ | refine Below.drew ?_ | refine Below.trans ?_ (Below.mono (by assumption) (by first | (simp; done) | (simp; omega) | omega))))
      have be11 : Below w.heap.size w w11 := BE10.out.trans (bb11.mono BE10.out.size)
      have c11_c_0 : w11.cell? ⟨w.heap.size + 1, 0, none⟩ = some (.bool c.b0) := cell_keep bb11 c10_c_0
      have c11_c_1 : w11.cell? ⟨w.heap.size + 1, 1, none⟩ = some (.bool c.b1) := cell_keep bb11 c10_c_1
      have c11_c_2 : w11.cell? ⟨w.heap.size + 1, 2, none⟩ = some (.bool c.b2) := cell_keep bb11 c10_c_2
      have c11_c_3 : w11.cell? ⟨w.heap.size + 1, 3, none⟩ = some (.bool c.b3) := cell_keep bb11 c10_c_3
      have c11_c_4 : w11.cell? ⟨w.heap.size + 1, 4, none⟩ = some (.bool c.b4) := cell_keep bb11 c10_c_4
      have c11_c_5 : w11.cell? ⟨w.heap.size + 1, 5, none⟩ = some (.bool c.b5) := cell_keep bb11 c10_c_5
      have c11_c_6 : w11.cell? ⟨w.heap.size + 1, 6, none⟩ = some (.bool c.b6) := cell_keep bb11 c10_c_6
      have c11_c_7 : w11.cell? ⟨w.heap.size + 1, 7, none⟩ = some (.slice c.p c.hs.length c.cap) := cell_keep bb11 c10_c_7
      have l11_c : w.heap.size + 1 < w11.heap.size := by omega
      have m11_c : w.heap.size + 1 < w11.heap.size + 1 := by omega
      have HT11 := Lib.hid (HT10.out.below bb11)
      have HC11 := Lib.hid (HC10.out.below bb11)
      have HL11 := Lib.hid (HL10.out.below bb11)
      have HE11 := Lib.hid (HE10.out.below bb11)
      have HST11 := Lib.hid (HST10.out.below bb11)
      have BE11 := Lib.hid be11
      clear be11 bb11 hb11 BE10 c10_c_0 c10_c_1 c10_c_2 c10_c_3 c10_c_4 c10_c_5 c10_c_6 c10_c_7 l10_c m10_c HT10 HC10 HL10 HE10 HST10
      go_wp2_with fail
      go_ret
      exact ⟨rfl, (by have q := BE11.out; repeat (first | exact q | refine Below.setCell ?_ (by first | (simp; done) | omega | (simp; omega)) _ | refine Below.alloc ?_ (by first | (simp; done) | omega | (simp; omega)) _ | refine below_drewN ?_ _ | refine Below.drew ?_))⟩
  · clear HX1
    have e9 : decide (m + n < 1000) = true := decide_eq_true (by omega)
    rcases HX2.out with rfl | ⟨rfl, rfl, rfl, rfl⟩ | ⟨rfl, rfl, rfl, rfl, hfb⟩ | ⟨rfl, rfl, rfl, rfl, hfb⟩
    · clear HX2
      go_wp2_with fail
      go_ret
      exact ⟨rfl, (by have q := BE10.out; repeat (first | exact q | refine Below.setCell ?_ (by first | (simp; done) | omega | (simp; omega)) _ | refine Below.alloc ?_ (by first | (simp; done) | omega | (simp; omega)) _ | refine below_drewN ?_ _ | refine Below.drew ?_))⟩
    · clear HX2
      go_wp2_with fail
      go_ret
      exact ⟨rfl, (by have q := BE10.out; repeat (first | exact q | refine Below.setCell ?_ (by first | (simp; done) | omega | (simp; omega)) _ | refine Below.alloc ?_ (by first | (simp; done) | omega | (simp; omega)) _ | refine below_drewN ?_ _ | refine Below.drew ?_))⟩
    · have HFB := Lib.hid hfb
      clear hfb HX2
      go_wp2_with fail
      refine (business_calls c _ _ (HC10.out.below (by repeat (first | exact Below.refl _ _ | assumption | refine below_drewN ?_ _ | refine Below.setCell ?_ (by first | (simp; done) | (simp; omega)) _ | refine Below.alloc ?_ (by first | (simp; done) | (simp; omega) | omega) _ | refine Below.drew ?_ | refine Below.trans ?_ (Below.mono (by assumption) (by first | (simp; done) | (simp; omega) | omega)))))).mono ?_
      rintro e w11 ⟨rfl, hb11⟩
      rw [HFB.out]
      have hz11 := hb11.size
      (try simp at hz11)
      have bb11 : Below w10.heap.size w10 w11 := (by repeat (first | exact Below.refl _ _ | assumption | refine below_drewN ?_ _ | refine Below.setCell ?_ (by first | (simp; done) | (simp; omega)) _ | refine Below.alloc ?_ (by first | (simp; done) | (simp; omega) | omega) _ | refine Below.drew ?_ | refine Below.trans ?_ (Below.mono (by assumption) (by first | (simp; done) | (simp; omega) | omega))))
      have be11 : Below w.heap.size w w11 := BE10.out.trans (bb11.mono BE10.out.size)
      have c11_c_0 : w11.cell? ⟨w.heap.size + 1, 0, none⟩ = some (.bool c.b0) := cell_keep bb11 c10_c_0
      have c11_c_1 : w11.cell? ⟨w.heap.size + 1, 1, none⟩ = some (.bool c.b1) := cell_keep bb11 c10_c_1
      have c11_c_2 : w11.cell? ⟨w.heap.size + 1, 2, none⟩ = some (.bool c.b2) := cell_keep bb11 c10_c_2
      have c11_c_3 : w11.cell? ⟨w.heap.size + 1, 3, none⟩ = some (.bool c.b3) := cell_keep bb11 c10_c_3
      have c11_c_4 : w11.cell? ⟨w.heap.size + 1, 4, none⟩ = some (.bool c.b4) := cell_keep bb11 c10_c_4
      have c11_c_5 : w11.cell? ⟨w.heap.size + 1, 5, none⟩ = some (.bool c.b5) := cell_keep bb11 c10_c_5
      have c11_c_6 : w11.cell? ⟨w.heap.size + 1, 6, none⟩ = some (.bool c.b6) := cell_keep bb11 c10_c_6
      have c11_c_7 : w11.cell? ⟨w.heap.size + 1, 7, none⟩ = some (.slice c.p c.hs.length c.cap) := cell_keep bb11 c10_c_7
      have l11_c : w.heap.size + 1 < w11.heap.size := by omega
      have m11_c : w.heap.size + 1 < w11.heap.size + 1 := by omega
      have HT11 := Lib.hid (HT10.out.below bb11)
      have HC11 := Lib.hid (HC10.out.below bb11)
      have HL11 := Lib.hid (HL10.out.below bb11)
      have HE11 := Lib.hid (HE10.out.below bb11)
      have HST11 := Lib.hid (HST10.out.below bb11)
      have BE11 := Lib.hid be11
      clear be11 bb11 hb11 BE10 c10_c_0 c10_c_1 c10_c_2 c10_c_3 c10_c_4 c10_c_5 c10_c_6 c10_c_7 l10_c m10_c HT10 HC10 HL10 HE10 HST10
      go_wp2_with fail
      go_ret
      exact ⟨rfl, (by have q := BE11.out; repeat (first | exact q | refine Below.setCell ?_ (by first | (simp; done) | omega | (simp; omega)) _ | refine Below.alloc ?_ (by first | (simp; done) | omega | (simp; omega)) _ | refine below_drewN ?_ _ | refine Below.drew ?_))⟩
    · have HFB := Lib.hid hfb
      clear hfb HX2
      go_wp2_with fail
      refine (business_calls c _ _ (HC10.out.below (by repeat (first | exact Below.refl _ _ | assumption | refine below_drewN ?_ _ | refine Below.setCell ?_ (by first | (simp; done) | (simp; omega)) _ | refine Below.alloc ?_ (by first | (simp; done) | (simp; omega) | omega) _ | refine Below.drew ?_ | refine Below.trans ?_ (Below.mono (by assumption) (by first | (simp; done) | (simp; omega) | omega)))))).mono ?_
      rintro e w11 ⟨rfl, hb11⟩
      rw [HFB.out]
      have hz11 := hb11.size
      (try simp at hz11)
      have bb11 : Below w10.heap.size w10 w11 := (by repeat (first | exact Below.refl _ _ | assumption | refine below_drewN ?_ _ | refine Below.setCell ?_ (by first | (simp; done) | (simp; omega)) _ | refine Below.alloc ?_ (by first | (simp; done) | (simp; omega) | omega) _ | refine Below.drew ?_ | refine Below.trans ?_ (Below.mono (by assumption) (by first | (simp; done) | (simp; omega) | omega))))
      have be11 : Below w.heap.size w w11 := BE10.out.trans (bb11.mono BE10.out.size)
      have c11_c_0 : w11.cell? ⟨w.heap.size + 1, 0, none⟩ = some (.bool c.b0) := cell_keep bb11 c10_c_0
      have c11_c_1 : w11.cell? ⟨w.heap.size + 1, 1, none⟩ = some (.bool c.b1) := cell_keep bb11 c10_c_1
      have c11_c_2 : w11.cell? ⟨w.heap.size + 1, 2, none⟩ = some (.bool c.b2) := cell_keep bb11 c10_c_2
      have c11_c_3 : w11.cell? ⟨w.heap.size + 1, 3, none⟩ = some (.bool c.b3) := cell_keep bb11 c10_c_3
      have c11_c_4 : w11.cell? ⟨w.heap.size + 1, 4, none⟩ = some (.bool c.b4) := cell_keep bb11 c10_c_4
      have c11_c_5 : w11.cell? ⟨w.heap.size + 1, 5, none⟩ = some (.bool c.b5) := cell_keep bb11 c10_c_5
      have c11_c_6 : w11.cell? ⟨w.heap.size + 1, 6, none⟩ = some (.bool c.b6) := cell_keep bb11 c10_c_6
      have c11_c_7 : w11.cell? ⟨w.heap.size + 1, 7, none⟩ = some (.slice c.p c.hs.length c.cap) := cell_keep bb11 c10_c_7
      have l11_c : w.heap.size + 1 < w11.heap.size := by omega
      have m11_c : w.heap.size + 1 < w11.heap.size + 1 := by omega
      have HT11 := Lib.hid (HT10.out.below bb11)
      have HC11 := Lib.hid (HC10.out.below bb11)
      have HL11 := Lib.hid (HL10.out.below bb11)
      have HE11 := Lib.hid (HE10.out.below bb11)
      have HST11 := Lib.hid (HST10.out.below bb11)
      have BE11 := Lib.hid be11
      clear be11 bb11 hb11 BE10 c10_c_0 c10_c_1 c10_c_2 c10_c_3 c10_c_4 c10_c_5 c10_c_6 c10_c_7 l10_c m10_c HT10 HC10 HL10 HE10 HST10
      go_wp2_with fail
      go_ret
      exact ⟨rfl, (by have q := BE11.out; repeat (first | exact q | refine Below.setCell ?_ (by first | (simp; done) | omega | (simp; omega)) _ | refine Below.alloc ?_ (by first | (simp; done) | omega | (simp; omega)) _ | refine below_drewN ?_ _ | refine Below.drew ?_))⟩
theorem sums_law (t : Dl.T) (c : Cal) (q : Option Addr) (capq : Nat) (l : List Wh) (one two : Int) (w : World) (ht : TAt w t) (hn : LenOK t) (hc : CalIn w c) (hl : EvAt w q l) (he : Env w) (o0 : 0 ≤ one) (o1 : one ≤ 65535) (o2 : 0 ≤ two) (o3 : two ≤ 65535) : Calls Tryd.prog 7 #[.agg #[.int .i64 t.kd, .int .i64 t.n, .int .i64 t.ev, .bool t.bz, .slice t.p t.kids.length t.cap], .agg #[.bool c.b0, .bool c.b1, .bool c.b2, .bool c.b3, .bool c.b4, .bool c.b5, .bool c.b6, .slice c.p c.hs.length c.cap], .slice q l.length capq, .int .u16 one, .int .u16 two] w fun e w' => e = .returned (.bool true) ∧ Below w.heap.size w w' := by
  cases hs : smallB t l with
  | false => exact su_s t c q capq l one two w ht hn hc hl he hs
  | true =>
    have hln := small_len hs
    obtain ⟨m, hm⟩ : ∃ m, Int.tmod one 501 = m := ⟨_, rfl⟩
    obtain ⟨n, hnn⟩ : ∃ n, Int.tmod two 501 = n := ⟨_, rfl⟩
    have hm2 : one % 501 = m := by rw [← hm, Int.tmod_eq_emod_of_nonneg o0]
    have hnn2 : two % 501 = n := by rw [← hnn, Int.tmod_eq_emod_of_nonneg o2]
    have m0 : 0 ≤ m := by omega
    have m1 : m ≤ 500 := by omega
    have n0 : 0 ≤ n := by omega
    have n1 : n ≤ 500 := by omega
    have HAF : ∀ p1 p2, evalS (plusT n false p1 1 (plusT m false p2 1 t)) c l = evalS (plusT n false none 1 (plusT m false none 1 t)) c l := fun p1 p2 => sim_eval (sim_plus (sim_plus (sim_refl t) m false p2 none 1 1) n false p1 none 1 1) c l
    have HBF : ∀ p1, evalS (plusT (m + n) false p1 1 t) c l = evalS (plusT (m + n) false none 1 t) c l := fun p1 => sim_eval (sim_plus (sim_refl t) (m + n) false p1 none 1 1) c l
    have HDF : ∀ p1 p2 p3, evalS (plusT (n + 1) true p1 1 (plusT m true p2 1 (nextT p3 1 t))) c l = evalS (plusT (n + 1) true none 1 (plusT m true none 1 (nextT none 1 t))) c l := fun p1 p2 p3 => sim_eval (sim_plus (sim_plus (sim_next (sim_refl t) p3 none 1 1) m true p2 none 1 1) (n + 1) true p1 none 1 1) c l
    have HFF : ∀ p1 p2, evalS (plusT (m + n + 1) true p1 1 (nextT p2 1 t)) c l = evalS (plusT (m + n + 1) true none 1 (nextT none 1 t)) c l := fun p1 p2 => sim_eval (sim_plus (sim_next (sim_refl t) p2 none 1 1) (m + n + 1) true p1 none 1 1) c l
    have HGF : ∀ p1, evalS (plusT 0 true p1 1 t) c l = evalS (plusT 0 true none 1 t) c l := fun p1 => sim_eval (sim_plus (sim_refl t) 0 true p1 none 1 1) c l
    have HHF : ∀ p1, evalS (nextT p1 1 t) c l = evalS (nextT none 1 t) c l := fun p1 => sim_eval (sim_next (sim_refl t) p1 none 1 1) c l
    rcases sums_facts t c l m0 m1 n0 n1 none none none none none none none none with h1 | ⟨h1, h2, h3, h4, h5⟩
    · obtain ⟨⟨b, kb, f⟩, hb⟩ : ∃ x, evalS (plusT (m + n) false none 1 t) c l = x := ⟨_, rfl⟩
      exact su_e t c q capq l one two w ht hn hc hl he hs hln o0 o1 o2 o3 m n hm hm2 hnn hnn2 n0 n1 b f kb (fun p1 p2 => (HAF p1 p2).trans h1) (fun p1 => (HBF p1).trans hb)
    · obtain ⟨⟨a, ke, e⟩, ha⟩ : ∃ x, evalS (plusT n false none 1 (plusT m false none 1 t)) c l = x := ⟨_, rfl⟩
      obtain ⟨⟨x, kx, g⟩, hd⟩ : ∃ x, evalS (plusT (n + 1) true none 1 (plusT m true none 1 (nextT none 1 t))) c l = x := ⟨_, rfl⟩
      obtain ⟨⟨y, ky, h⟩, hf⟩ : ∃ x, evalS (plusT (m + n + 1) true none 1 (nextT none 1 t)) c l = x := ⟨_, rfl⟩
      obtain ⟨⟨p, is, i⟩, hg⟩ : ∃ x, evalS (plusT 0 true none 1 t) c l = x := ⟨_, rfl⟩
      rw [hg] at h4
      rw [ha] at h1 h2 h5
      rw [hd, hf] at h3
      rw [hg] at h5
      refine su_go t c q capq l one two w ht hn hc hl he hs hln o0 o1 o2 o3 m n hm hm2 hnn hnn2 n0 n1 a e x g y h p i ke kx ky is (by simpa using h1) (fun p1 p2 => (HAF p1 p2).trans ha) (fun p1 => (HBF p1).trans h2) (fun p1 p2 p3 => (HDF p1 p2 p3).trans hd) (fun p1 p2 => (HFF p1 p2).trans hf) (fun p1 => (HGF p1).trans hg) (fun p1 => (HHF p1).trans h4) ?_ ?_
      · by_cases hg1 : g = 1
        · exact .inl hg1
        · have hg2 : (g != 1) = true := by simpa using hg1
          rcases h3 with h3 | h3 | h3
          · simp only [Prod.mk.injEq] at h3
            exact absurd h3.2.2 hg1
          · exact .inr (.inl ⟨hg2, h3⟩)
          · by_cases hmn : m + n < 1000
            · simp only [Prod.mk.injEq] at h3
              exact .inr (.inr ⟨hg2, hmn, h3.2.2, h3.1⟩)
            · exact .inr (.inl ⟨hg2, hmn⟩)
      · rcases h5 with h5 | ⟨h5, h6⟩ | ⟨p', h5, h6, h7⟩
        · simp only [Prod.mk.injEq] at h5
          exact .inl h5.2.2
        · simp only [Prod.mk.injEq] at h5 h6
          exact .inr (.inl ⟨h5.2.2, h5.2.1, h6.2.2, h6.2.1⟩)
        · simp only [Prod.mk.injEq] at h5
          obtain ⟨rfl, rfl, rfl⟩ := h5
          rcases h7 with h7 | ⟨a', h7⟩
          · simp only [Prod.mk.injEq] at h7
            exact .inr (.inr (.inr ⟨rfl, rfl, h7.2.2, h7.2.1, h6⟩))
          · simp only [Prod.mk.injEq] at h7
            exact .inr (.inr (.inl ⟨rfl, rfl, h7.2.2, h7.2.1, h6⟩))
end Go.Proofs.YtlbfnafniobnaaaDoor

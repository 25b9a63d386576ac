/- The order of two lists of events; small functions of the law. -/
import Derived.Test.YtlbfnafniobnaaaDoorDlU
namespace Go.Proofs.YtlbfnafniobnaaaDoor
open Go.RowKit Go.Shelf

def ordB (x y : Wh) : Bool := if x.known && y.known then decide (x.day < y.day) || (decide (x.day = y.day) && decide (x.minute ≤ y.minute)) else x.known == y.known
def ordL : List Wh → List Wh → Bool
  | [], [] => true
  | x :: xs, y :: ys => ordB x y && ordL xs ys
  | _, _ => false
theorem ordL_len : ∀ {a b : List Wh}, ordL a b = true → a.length = b.length
  | [], [], _ => rfl
  | [], y :: ys, h => by cases h
  | x :: xs, [], h => by cases h
  | x :: xs, y :: ys, h => by
    rw [ordL, Bool.and_eq_true] at h
    rw [List.length_cons, List.length_cons, ordL_len h.2]
theorem inOrder_calls (x y : Wh) (w : World) : Calls Tryd.prog 29 #[.agg #[.bool x.known, .int .i64 x.day, .int .i64 x.minute], .agg #[.bool y.known, .int .i64 y.day, .int .i64 y.minute]] w fun e w' => e = .returned (.bool (ordB x y)) ∧ Below w.heap.size w w' := by
  obtain ⟨k1, d1, m1⟩ := x
  obtain ⟨k2, d2, m2⟩ := y
  unfold ordB
  cases k1
  · cases k2
    · go_enter Tryd.func29, Tryd.ntmps29
      go_wp2_with fail
      go_ret
      exact ⟨by simp, (by repeat (first | exact Below.refl _ _ | assumption | refine below_drewN ?_ _ | refine Below.setCell ?_ (by first | (simp; done) | (simp; omega)) _ | refine Below.alloc ?_ (by first | (simp; done) | (simp; omega) | omega) _ | refine Below.drew ?_ | refine Below.trans ?_ (Below.mono (by assumption) (by first | (simp; done) | (simp; omega) | omega))))⟩
    · go_enter Tryd.func29, Tryd.ntmps29
      go_wp2_with fail
      go_ret
      exact ⟨by simp, (by repeat (first | exact Below.refl _ _ | assumption | refine below_drewN ?_ _ | refine Below.setCell ?_ (by first | (simp; done) | (simp; omega)) _ | refine Below.alloc ?_ (by first | (simp; done) | (simp; omega) | omega) _ | refine Below.drew ?_ | refine Below.trans ?_ (Below.mono (by assumption) (by first | (simp; done) | (simp; omega) | omega))))⟩
  · cases k2
    · go_enter Tryd.func29, Tryd.ntmps29
      go_wp2_with fail
      go_ret
      exact ⟨by simp, (by repeat (first | exact Below.refl _ _ | assumption | refine below_drewN ?_ _ | refine Below.setCell ?_ (by first | (simp; done) | (simp; omega)) _ | refine Below.alloc ?_ (by first | (simp; done) | (simp; omega) | omega) _ | refine Below.drew ?_ | refine Below.trans ?_ (Below.mono (by assumption) (by first | (simp; done) | (simp; omega) | omega))))⟩
    · rcases Int.lt_trichotomy d1 d2 with h | h | h
      · go_enter Tryd.func29, Tryd.ntmps29
        go_wp2_with fail
        go_ret
        exact ⟨by simp, (by repeat (first | exact Below.refl _ _ | assumption | refine below_drewN ?_ _ | refine Below.setCell ?_ (by first | (simp; done) | (simp; omega)) _ | refine Below.alloc ?_ (by first | (simp; done) | (simp; omega) | omega) _ | refine Below.drew ?_ | refine Below.trans ?_ (Below.mono (by assumption) (by first | (simp; done) | (simp; omega) | omega))))⟩
      · subst h
        go_enter Tryd.func29, Tryd.ntmps29
        go_wp2_with fail
        go_ret
        exact ⟨by simp, (by repeat (first | exact Below.refl _ _ | assumption | refine below_drewN ?_ _ | refine Below.setCell ?_ (by first | (simp; done) | (simp; omega)) _ | refine Below.alloc ?_ (by first | (simp; done) | (simp; omega) | omega) _ | refine Below.drew ?_ | refine Below.trans ?_ (Below.mono (by assumption) (by first | (simp; done) | (simp; omega) | omega))))⟩
      · have h1 : ¬ d1 < d2 := by omega
        have h2 : ¬ d1 = d2 := by omega
        go_enter Tryd.func29, Tryd.ntmps29
        go_wp2_with fail
        go_ret
        exact ⟨by first | (simp; done) | (simp; omega) | (simp [h2]; done), (by repeat (first | exact Below.refl _ _ | assumption | refine below_drewN ?_ _ | refine Below.setCell ?_ (by first | (simp; done) | (simp; omega)) _ | refine Below.alloc ?_ (by first | (simp; done) | (simp; omega) | omega) _ | refine Below.drew ?_ | refine Below.trans ?_ (Below.mono (by assumption) (by first | (simp; done) | (simp; omega) | omega))))⟩
set_option maxHeartbeats 1600000 in
theorem equal_calls (p q : Option Addr) (cap cap2 : Nat) (a b : List Wh) (w : World) (hn : a.length ≤ 1000) (ha : EvAt w p a) (hb : EvAt w q b) :
    Calls Tryd.prog 28 #[.slice p a.length cap, .slice q b.length cap2, .func (.func 29) #[] #[]] w fun e w' => e = .returned (.bool (ordL a b)) ∧ Below w.heap.size w w' := by
  have HA := Lib.hid ha
  have HB := Lib.hid hb
  clear ha hb
  have eg := enters_of Tryd.func29 (by kernel_rfl) rfl
  by_cases hl : a.length = b.length
  · obtain ⟨res, hres⟩ : ∃ res, ordL a b = res := ⟨_, rfl⟩
    rw [hres]
    have HRES := Lib.hid hres
    have hne : ((a.length : Int) != (b.length : Int)) = false := by simp [hl]
    have HL := Lib.hid hl
    clear hres hl
    go_enter Tryd.func28, Tryd.ntmps28
    go_wp2_with fail
    go_loopw [17] (fun i wr => ∃ k : Nat, i = .int .i64 k ∧ k ≤ a.length ∧ ordL (a.drop k) (b.drop k) = res ∧ Below w.heap.size w wr) (fun i _ => a.length - (intOf i).toNat)
    case atStart => exact ⟨0, rfl, Nat.zero_le _, HRES.out, Below.refl _ _⟩
    case round =>
      obtain ⟨k, rfl, hk, hrk, hbw⟩ := hrel
      have HRK := Lib.hid hrk
      have HBW := Lib.hid hbw
      clear hrk hbw
      by_cases hlt : k < a.length
      · have hlb : k < b.length := by have := HL.out; omega
        have hu : a[k]? = some a[k] := List.getElem?_eq_getElem hlt
        have hv : b[k]? = some b[k] := List.getElem?_eq_getElem hlb
        have hd : a.drop k = a[k] :: a.drop (k + 1) := List.drop_eq_getElem_cons hlt
        have hd2 : b.drop k = b[k] :: b.drop (k + 1) := List.drop_eq_getElem_cons hlb
        generalize a[k] = x at hu hd
        generalize b[k] = y at hv hd2
        have hrk := HRK.out
        rw [hd, hd2, ordL] at hrk
        obtain ⟨ba, offa, rfl, hca, hbla⟩ := (HA.out.below HBW.out).at hu
        obtain ⟨bb, offb, rfl, hcb, hblb⟩ := (HB.out.below HBW.out).at hv
        obtain ⟨c0, c1, c2⟩ := hca
        obtain ⟨d0, d1, d2⟩ := hcb
        have hi0 : (0 : Int) ≤ (k : Int) := by omega
        have hi1 : (k : Int) < (a.length : Int) := by omega
        have hi2 : (k : Int) < (b.length : Int) := by omega
        have HRK2 := Lib.hid hrk
        clear hu hv hd hd2 hrk HRK
        go_wp2_with fail
        refine (inOrder_calls x y _).mono ?_
        rintro e w1 ⟨rfl, hb1⟩
        have hb2 : Below w.heap.size w w1 := HBW.out.trans (Below.mono (by repeat (first | exact Below.refl _ _ | assumption | refine below_drewN ?_ _ | refine Below.setCell ?_ (by first | (simp; done) | (simp; omega)) _ | refine Below.alloc ?_ (by first | (simp; done) | (simp; omega) | omega) _ | refine Below.drew ?_ | refine Below.trans ?_ (Below.mono (by assumption) (by first | (simp; done) | (simp; omega) | omega)))) HBW.out.size)
        cases hxy : ordB x y with
        | false =>
          have hrk := HRK2.out
          rw [hxy, Bool.false_and] at hrk
          obtain rfl : res = false := hrk.symm
          clear hb1 hrk
          go_wp2_with fail
          go_ret
          exact ⟨rfl, hb2⟩
        | true =>
          have hrk := HRK2.out
          rw [hxy, Bool.true_and] at hrk
          have HN := Lib.hid hrk
          clear hb1 hrk
          go_wp2_with fail
          go_roundw
          case rel => exact ⟨k + 1, by simp, hlt, HN.out, hb2⟩
          case measure =>
            simp only [intOf]
            omega
      · obtain rfl : k = a.length := by omega
        have hrk := HRK.out
        rw [List.drop_length, HL.out, List.drop_length] at hrk
        obtain rfl : true = res := hrk
        go_wp2_with fail
        go_ret
        exact ⟨rfl, HBW.out⟩
  · have hr : ordL a b = false := by
      cases h : ordL a b with
      | false => rfl
      | true => exact absurd (ordL_len h) hl
    rw [hr]
    have hne : ¬ ((a.length : Int) = (b.length : Int)) := by omega
    clear hr hl
    go_enter Tryd.func28, Tryd.ntmps28
    go_wp2_with fail
    go_ret
    exact ⟨rfl, (by repeat (first | exact Below.refl _ _ | assumption | refine below_drewN ?_ _ | refine Below.setCell ?_ (by first | (simp; done) | (simp; omega)) _ | refine Below.alloc ?_ (by first | (simp; done) | (simp; omega) | omega) _ | refine Below.drew ?_ | refine Below.trans ?_ (Below.mono (by assumption) (by first | (simp; done) | (simp; omega) | omega))))⟩
theorem on_calls (d m : Int) (w : World) : Calls Tryd.prog 18 #[.int .i64 d, .int .i64 m] w fun e w' => e = .returned (.agg #[.bool true, .int .i64 d, .int .i64 m]) ∧ Below w.heap.size w w' := by
  go_enter Tryd.func18, Tryd.ntmps18
  go_wp2_with fail
  refine bodyPost_ret (v := .agg #[.bool true, .int .i64 d, .int .i64 m]) (by simp [results, Tryd.results18, go_sem]) rfl ⟨rfl, (by repeat (first | exact Below.refl _ _ | assumption | refine below_drewN ?_ _ | refine Below.setCell ?_ (by first | (simp; done) | (simp; omega)) _ | refine Below.alloc ?_ (by first | (simp; done) | (simp; omega) | omega) _ | refine Below.drew ?_ | refine Below.trans ?_ (Below.mono (by assumption) (by first | (simp; done) | (simp; omega) | omega))))⟩
theorem of_calls (k n : Int) (b : Bool) (p : Option Addr) (len cap : Nat) (w : World) : Calls Tryd.prog 15 #[.int .i64 k, .int .i64 n, .bool b, .slice p len cap] w fun e w' => e = .returned (.agg #[.int .i64 k, .int .i64 n, .int .i64 0, .bool b, .slice p len cap]) ∧ Below w.heap.size w w' := by
  go_enter Tryd.func15, Tryd.ntmps15
  go_wp2_with fail
  refine bodyPost_ret (v := .agg #[.int .i64 k, .int .i64 n, .int .i64 0, .bool b, .slice p len cap]) (by simp [results, Tryd.results15, go_sem]) rfl ⟨rfl, (by repeat (first | exact Below.refl _ _ | assumption | refine below_drewN ?_ _ | refine Below.setCell ?_ (by first | (simp; done) | (simp; omega)) _ | refine Below.alloc ?_ (by first | (simp; done) | (simp; omega) | omega) _ | refine Below.drew ?_ | refine Below.trans ?_ (Below.mono (by assumption) (by first | (simp; done) | (simp; omega) | omega))))⟩
def R4 (x : Int × Int × Bool × Int) : Value := .tuple #[.int .i64 x.1, .int .i64 x.2.1, .bool x.2.2.1, .int .i64 x.2.2.2]
def boundsR (a b : Int × Bool × Int) (o : Bool) : Int × Int × Bool × Int :=
  if a.2.2 = 1 then (0, 0, false, 1) else if b.2.2 = 1 then (0, 0, false, 1) else if o = false then (0, 0, false, 1)
  else if a.2.2 = 0 then (if b.2.2 = 0 then (a.1, b.1, a.2.1, 0) else (0, 0, false, 2)) else (0, 0, false, 2)
/-- what Bounds answers -/
noncomputable def boundsS (t : Dl.T) (c : Cal) (lo hi : List Wh) : Int × Int × Bool × Int := boundsR (evalS t c lo) (evalS t c hi) (ordL lo hi)
set_option maxHeartbeats 3200000 in
set_option maxRecDepth 100000 in
theorem bounds_any (n₀ : Nat) (t : Dl.T) (c : Cal) (q1 q2 : Option Addr) (cap1 cap2 : Nat) (lo hi : List Wh) (w : World) (ht : TIn n₀ w t) (hn : n₀ ≤ w.heap.size) (hc : CalIn w c) (hlo : EvAt w q1 lo) (hhi : EvAt w q2 hi) (hlo1 : lo.length ≤ 1000) (hhi1 : hi.length ≤ 1000) (hE : Env w) :
    Calls Tryd.prog 13 #[.agg #[.int .i64 t.kd, .int .i64 t.n, .int .i64 t.ev, .bool t.bz, .slice t.p t.kids.length t.cap], .agg #[.bool c.b0, .bool c.b1, .bool c.b2, .bool c.b3, .bool c.b4, .bool c.b5, .bool c.b6, .slice c.p c.hs.length c.cap], .slice q1 lo.length cap1, .slice q2 hi.length cap2] w fun e w' => e = .returned (R4 (boundsS t c lo hi)) ∧ Below w.heap.size w w' := by
  have HT := Lib.hid ht
  have HC := Lib.hid hc
  have HLO := Lib.hid hlo
  have HHI := Lib.hid hhi
  have HE := Lib.hid hE
  clear ht hc hlo hhi hE
  unfold boundsS
  obtain ⟨a, k1, e1, hea⟩ : ∃ a k e, evalS t c lo = (a, k, e) := ⟨_, _, _, rfl⟩
  obtain ⟨b, k2, e2, heb⟩ : ∃ a k e, evalS t c hi = (a, k, e) := ⟨_, _, _, rfl⟩
  obtain ⟨o, hor⟩ : ∃ o, ordL lo hi = o := ⟨_, rfl⟩
  rw [hea, heb, hor]
  have HEA := Lib.hid hea
  have HEB := Lib.hid heb
  have HOR := Lib.hid hor
  clear hea heb hor
  unfold boundsR R4
  dsimp only
  by_cases h1 : e1 = 1
  · rw [if_pos h1]
    subst h1
    go_enter Tryd.func13, Tryd.ntmps13
    go_wp2_with fail
    obtain ⟨U, hU⟩ : ∃ U, U = (w.alloc (.cells (TCells t) 24)).alloc (.cells #[.bool c.b0, .bool c.b1, .bool c.b2, .bool c.b3, .bool c.b4, .bool c.b5, .bool c.b6, .slice c.p c.hs.length c.cap] 28) := ⟨_, rfl⟩
    have bU : Below w.heap.size w U := by rw [hU]; exact (by repeat (first | exact Below.refl _ _ | assumption | refine below_drewN ?_ _ | refine Below.setCell ?_ (by first | (simp; done) | (simp; omega)) _ | refine Below.alloc ?_ (by first | (simp; done) | (simp; omega) | omega) _ | refine Below.drew ?_ | refine Below.trans ?_ (Below.mono (by assumption) (by first | (simp; done) | (simp; omega) | omega))))
    have u0 : U.heap[w.heap.size]? = some (.cells (TCells t) 24 (0, 0)) := by rw [hU]; repeat (first | exact heap_new (by simp) | refine (Below.heap_alloc _ _ _ (by first | (simp; done) | (simp; omega))).trans ?_)
    have u1 : U.heap[w.heap.size + 1]? = some (.cells #[.bool c.b0, .bool c.b1, .bool c.b2, .bool c.b3, .bool c.b4, .bool c.b5, .bool c.b6, .slice c.p c.hs.length c.cap] 28 (0, 0)) := by rw [hU]; repeat (first | exact heap_new (by simp) | refine (Below.heap_alloc _ _ _ (by first | (simp; done) | (simp; omega))).trans ?_)
    rw [TCells] at hU
    rw [← hU]
    clear hU
    refine (eval_any n₀ t c q1 cap1 lo U (TIn.below (bU.mono hn) t HT.out) (Nat.le_trans hn bU.size) (HC.out.below bU) (HLO.out.below bU) hlo1 (HE.out.below bU)).mono ?_
    rintro e U1 ⟨rfl, hb⟩
    have bU1 : Below w.heap.size w U1 := bU.trans (hb.mono bU.size)
    have u0 := (hb.block _ (Array.getElem?_eq_some_iff.1 u0).1).trans u0
    have u1 := (hb.block _ (Array.getElem?_eq_some_iff.1 u1).1).trans u1
    have y0 : U1.cell? ⟨w.heap.size, 0, none⟩ = some (.int .i64 t.kd) := by simp [World.cell?, u0, TCells]
    have y1 : U1.cell? ⟨w.heap.size, 1, none⟩ = some (.int .i64 t.n) := by simp [World.cell?, u0, TCells]
    have y2 : U1.cell? ⟨w.heap.size, 2, none⟩ = some (.int .i64 t.ev) := by simp [World.cell?, u0, TCells]
    have y3 : U1.cell? ⟨w.heap.size, 3, none⟩ = some (.bool t.bz) := by simp [World.cell?, u0, TCells]
    have y4 : U1.cell? ⟨w.heap.size, 4, none⟩ = some (.slice t.p t.kids.length t.cap) := by simp [World.cell?, u0, TCells]
    have z0 : U1.cell? ⟨w.heap.size + 1, 0, none⟩ = some (.bool c.b0) := by simp [World.cell?, u1]
    have z1 : U1.cell? ⟨w.heap.size + 1, 1, none⟩ = some (.bool c.b1) := by simp [World.cell?, u1]
    have z2 : U1.cell? ⟨w.heap.size + 1, 2, none⟩ = some (.bool c.b2) := by simp [World.cell?, u1]
    have z3 : U1.cell? ⟨w.heap.size + 1, 3, none⟩ = some (.bool c.b3) := by simp [World.cell?, u1]
    have z4 : U1.cell? ⟨w.heap.size + 1, 4, none⟩ = some (.bool c.b4) := by simp [World.cell?, u1]
    have z5 : U1.cell? ⟨w.heap.size + 1, 5, none⟩ = some (.bool c.b5) := by simp [World.cell?, u1]
    have z6 : U1.cell? ⟨w.heap.size + 1, 6, none⟩ = some (.bool c.b6) := by simp [World.cell?, u1]
    have z7 : U1.cell? ⟨w.heap.size + 1, 7, none⟩ = some (.slice c.p c.hs.length c.cap) := by simp [World.cell?, u1]
    rw [HEA.out]
    simp only [R3]
    clear hb
    go_wp2_with fail
    refine (eval_any n₀ t c q2 cap2 hi U1 (TIn.below (bU1.mono hn) t HT.out) (Nat.le_trans hn bU1.size) (HC.out.below bU1) (HHI.out.below bU1) hhi1 (HE.out.below bU1)).mono ?_
    rintro e U2 ⟨rfl, hb⟩
    have bU2 : Below w.heap.size w U2 := bU1.trans (hb.mono bU1.size)
    rw [HEB.out]
    simp only [R3]
    clear hb u0 u1 y0 y1 y2 y3 y4 z0 z1 z2 z3 z4 z5 z6 z7
    go_wp2_with fail
    all_goals refine bodyPost_ret (v := .tuple #[.int .i64 0, .int .i64 0, .bool false, .int .i64 1]) (by simp [results, Tryd.results13, go_sem]) rfl ⟨rfl, bU2⟩
  rw [if_neg h1]
  by_cases h2 : e2 = 1
  · rw [if_pos h2]
    subst h2
    go_enter Tryd.func13, Tryd.ntmps13
    go_wp2_with fail
    obtain ⟨U, hU⟩ : ∃ U, U = (w.alloc (.cells (TCells t) 24)).alloc (.cells #[.bool c.b0, .bool c.b1, .bool c.b2, .bool c.b3, .bool c.b4, .bool c.b5, .bool c.b6, .slice c.p c.hs.length c.cap] 28) := ⟨_, rfl⟩
    have bU : Below w.heap.size w U := by rw [hU]; exact (by repeat (first | exact Below.refl _ _ | assumption | refine below_drewN ?_ _ | refine Below.setCell ?_ (by first | (simp; done) | (simp; omega)) _ | refine Below.alloc ?_ (by first | (simp; done) | (simp; omega) | omega) _ | refine Below.drew ?_ | refine Below.trans ?_ (Below.mono (by assumption) (by first | (simp; done) | (simp; omega) | omega))))
    have u0 : U.heap[w.heap.size]? = some (.cells (TCells t) 24 (0, 0)) := by rw [hU]; repeat (first | exact heap_new (by simp) | refine (Below.heap_alloc _ _ _ (by first | (simp; done) | (simp; omega))).trans ?_)
    have u1 : U.heap[w.heap.size + 1]? = some (.cells #[.bool c.b0, .bool c.b1, .bool c.b2, .bool c.b3, .bool c.b4, .bool c.b5, .bool c.b6, .slice c.p c.hs.length c.cap] 28 (0, 0)) := by rw [hU]; repeat (first | exact heap_new (by simp) | refine (Below.heap_alloc _ _ _ (by first | (simp; done) | (simp; omega))).trans ?_)
    rw [TCells] at hU
    rw [← hU]
    clear hU
    refine (eval_any n₀ t c q1 cap1 lo U (TIn.below (bU.mono hn) t HT.out) (Nat.le_trans hn bU.size) (HC.out.below bU) (HLO.out.below bU) hlo1 (HE.out.below bU)).mono ?_
    rintro e U1 ⟨rfl, hb⟩
    have bU1 : Below w.heap.size w U1 := bU.trans (hb.mono bU.size)
    have u0 := (hb.block _ (Array.getElem?_eq_some_iff.1 u0).1).trans u0
    have u1 := (hb.block _ (Array.getElem?_eq_some_iff.1 u1).1).trans u1
    have y0 : U1.cell? ⟨w.heap.size, 0, none⟩ = some (.int .i64 t.kd) := by simp [World.cell?, u0, TCells]
    have y1 : U1.cell? ⟨w.heap.size, 1, none⟩ = some (.int .i64 t.n) := by simp [World.cell?, u0, TCells]
    have y2 : U1.cell? ⟨w.heap.size, 2, none⟩ = some (.int .i64 t.ev) := by simp [World.cell?, u0, TCells]
    have y3 : U1.cell? ⟨w.heap.size, 3, none⟩ = some (.bool t.bz) := by simp [World.cell?, u0, TCells]
    have y4 : U1.cell? ⟨w.heap.size, 4, none⟩ = some (.slice t.p t.kids.length t.cap) := by simp [World.cell?, u0, TCells]
    have z0 : U1.cell? ⟨w.heap.size + 1, 0, none⟩ = some (.bool c.b0) := by simp [World.cell?, u1]
    have z1 : U1.cell? ⟨w.heap.size + 1, 1, none⟩ = some (.bool c.b1) := by simp [World.cell?, u1]
    have z2 : U1.cell? ⟨w.heap.size + 1, 2, none⟩ = some (.bool c.b2) := by simp [World.cell?, u1]
    have z3 : U1.cell? ⟨w.heap.size + 1, 3, none⟩ = some (.bool c.b3) := by simp [World.cell?, u1]
    have z4 : U1.cell? ⟨w.heap.size + 1, 4, none⟩ = some (.bool c.b4) := by simp [World.cell?, u1]
    have z5 : U1.cell? ⟨w.heap.size + 1, 5, none⟩ = some (.bool c.b5) := by simp [World.cell?, u1]
    have z6 : U1.cell? ⟨w.heap.size + 1, 6, none⟩ = some (.bool c.b6) := by simp [World.cell?, u1]
    have z7 : U1.cell? ⟨w.heap.size + 1, 7, none⟩ = some (.slice c.p c.hs.length c.cap) := by simp [World.cell?, u1]
    rw [HEA.out]
    simp only [R3]
    clear hb
    go_wp2_with fail
    refine (eval_any n₀ t c q2 cap2 hi U1 (TIn.below (bU1.mono hn) t HT.out) (Nat.le_trans hn bU1.size) (HC.out.below bU1) (HHI.out.below bU1) hhi1 (HE.out.below bU1)).mono ?_
    rintro e U2 ⟨rfl, hb⟩
    have bU2 : Below w.heap.size w U2 := bU1.trans (hb.mono bU1.size)
    rw [HEB.out]
    simp only [R3]
    clear hb u0 u1 y0 y1 y2 y3 y4 z0 z1 z2 z3 z4 z5 z6 z7
    go_wp2_with fail
    all_goals refine bodyPost_ret (v := .tuple #[.int .i64 0, .int .i64 0, .bool false, .int .i64 1]) (by simp [results, Tryd.results13, go_sem]) rfl ⟨rfl, bU2⟩
  rw [if_neg h2]
  cases o with
  | false =>
    rw [if_pos rfl]
    go_enter Tryd.func13, Tryd.ntmps13
    go_wp2_with fail
    obtain ⟨U, hU⟩ : ∃ U, U = (w.alloc (.cells (TCells t) 24)).alloc (.cells #[.bool c.b0, .bool c.b1, .bool c.b2, .bool c.b3, .bool c.b4, .bool c.b5, .bool c.b6, .slice c.p c.hs.length c.cap] 28) := ⟨_, rfl⟩
    have bU : Below w.heap.size w U := by rw [hU]; exact (by repeat (first | exact Below.refl _ _ | assumption | refine below_drewN ?_ _ | refine Below.setCell ?_ (by first | (simp; done) | (simp; omega)) _ | refine Below.alloc ?_ (by first | (simp; done) | (simp; omega) | omega) _ | refine Below.drew ?_ | refine Below.trans ?_ (Below.mono (by assumption) (by first | (simp; done) | (simp; omega) | omega))))
    have u0 : U.heap[w.heap.size]? = some (.cells (TCells t) 24 (0, 0)) := by rw [hU]; repeat (first | exact heap_new (by simp) | refine (Below.heap_alloc _ _ _ (by first | (simp; done) | (simp; omega))).trans ?_)
    have u1 : U.heap[w.heap.size + 1]? = some (.cells #[.bool c.b0, .bool c.b1, .bool c.b2, .bool c.b3, .bool c.b4, .bool c.b5, .bool c.b6, .slice c.p c.hs.length c.cap] 28 (0, 0)) := by rw [hU]; repeat (first | exact heap_new (by simp) | refine (Below.heap_alloc _ _ _ (by first | (simp; done) | (simp; omega))).trans ?_)
    rw [TCells] at hU
    rw [← hU]
    clear hU
    refine (eval_any n₀ t c q1 cap1 lo U (TIn.below (bU.mono hn) t HT.out) (Nat.le_trans hn bU.size) (HC.out.below bU) (HLO.out.below bU) hlo1 (HE.out.below bU)).mono ?_
    rintro e U1 ⟨rfl, hb⟩
    have bU1 : Below w.heap.size w U1 := bU.trans (hb.mono bU.size)
    have u0 := (hb.block _ (Array.getElem?_eq_some_iff.1 u0).1).trans u0
    have u1 := (hb.block _ (Array.getElem?_eq_some_iff.1 u1).1).trans u1
    have y0 : U1.cell? ⟨w.heap.size, 0, none⟩ = some (.int .i64 t.kd) := by simp [World.cell?, u0, TCells]
    have y1 : U1.cell? ⟨w.heap.size, 1, none⟩ = some (.int .i64 t.n) := by simp [World.cell?, u0, TCells]
    have y2 : U1.cell? ⟨w.heap.size, 2, none⟩ = some (.int .i64 t.ev) := by simp [World.cell?, u0, TCells]
    have y3 : U1.cell? ⟨w.heap.size, 3, none⟩ = some (.bool t.bz) := by simp [World.cell?, u0, TCells]
    have y4 : U1.cell? ⟨w.heap.size, 4, none⟩ = some (.slice t.p t.kids.length t.cap) := by simp [World.cell?, u0, TCells]
    have z0 : U1.cell? ⟨w.heap.size + 1, 0, none⟩ = some (.bool c.b0) := by simp [World.cell?, u1]
    have z1 : U1.cell? ⟨w.heap.size + 1, 1, none⟩ = some (.bool c.b1) := by simp [World.cell?, u1]
    have z2 : U1.cell? ⟨w.heap.size + 1, 2, none⟩ = some (.bool c.b2) := by simp [World.cell?, u1]
    have z3 : U1.cell? ⟨w.heap.size + 1, 3, none⟩ = some (.bool c.b3) := by simp [World.cell?, u1]
    have z4 : U1.cell? ⟨w.heap.size + 1, 4, none⟩ = some (.bool c.b4) := by simp [World.cell?, u1]
    have z5 : U1.cell? ⟨w.heap.size + 1, 5, none⟩ = some (.bool c.b5) := by simp [World.cell?, u1]
    have z6 : U1.cell? ⟨w.heap.size + 1, 6, none⟩ = some (.bool c.b6) := by simp [World.cell?, u1]
    have z7 : U1.cell? ⟨w.heap.size + 1, 7, none⟩ = some (.slice c.p c.hs.length c.cap) := by simp [World.cell?, u1]
    rw [HEA.out]
    simp only [R3]
    clear hb
    go_wp2_with fail
    refine (eval_any n₀ t c q2 cap2 hi U1 (TIn.below (bU1.mono hn) t HT.out) (Nat.le_trans hn bU1.size) (HC.out.below bU1) (HHI.out.below bU1) hhi1 (HE.out.below bU1)).mono ?_
    rintro e U2 ⟨rfl, hb⟩
    have bU2 : Below w.heap.size w U2 := bU1.trans (hb.mono bU1.size)
    rw [HEB.out]
    simp only [R3]
    clear hb u0 u1 y0 y1 y2 y3 y4 z0 z1 z2 z3 z4 z5 z6 z7
    go_wp2_with fail
    refine (equal_calls q1 q2 cap1 cap2 lo hi U2 hlo1 (HLO.out.below bU2) (HHI.out.below bU2)).mono ?_
    rintro e U3 ⟨rfl, hb⟩
    rw [HOR.out]
    have bU3 : Below w.heap.size w U3 := bU2.trans (hb.mono bU2.size)
    clear hb
    go_wp2_with fail
    all_goals refine bodyPost_ret (v := .tuple #[.int .i64 0, .int .i64 0, .bool false, .int .i64 1]) (by simp [results, Tryd.results13, go_sem]) rfl ⟨rfl, bU3⟩
  | true =>
    rw [if_neg (by simp)]
    by_cases h3 : e1 = 0
    · rw [if_pos h3]
      subst h3
      by_cases h4 : e2 = 0
      · rw [if_pos h4]
        subst h4
        clear h1 h2
        go_enter Tryd.func13, Tryd.ntmps13
        go_wp2_with fail
        obtain ⟨U, hU⟩ : ∃ U, U = (w.alloc (.cells (TCells t) 24)).alloc (.cells #[.bool c.b0, .bool c.b1, .bool c.b2, .bool c.b3, .bool c.b4, .bool c.b5, .bool c.b6, .slice c.p c.hs.length c.cap] 28) := ⟨_, rfl⟩
        have bU : Below w.heap.size w U := by rw [hU]; exact (by repeat (first | exact Below.refl _ _ | assumption | refine below_drewN ?_ _ | refine Below.setCell ?_ (by first | (simp; done) | (simp; omega)) _ | refine Below.alloc ?_ (by first | (simp; done) | (simp; omega) | omega) _ | refine Below.drew ?_ | refine Below.trans ?_ (Below.mono (by assumption) (by first | (simp; done) | (simp; omega) | omega))))
        have u0 : U.heap[w.heap.size]? = some (.cells (TCells t) 24 (0, 0)) := by rw [hU]; repeat (first | exact heap_new (by simp) | refine (Below.heap_alloc _ _ _ (by first | (simp; done) | (simp; omega))).trans ?_)
        have u1 : U.heap[w.heap.size + 1]? = some (.cells #[.bool c.b0, .bool c.b1, .bool c.b2, .bool c.b3, .bool c.b4, .bool c.b5, .bool c.b6, .slice c.p c.hs.length c.cap] 28 (0, 0)) := by rw [hU]; repeat (first | exact heap_new (by simp) | refine (Below.heap_alloc _ _ _ (by first | (simp; done) | (simp; omega))).trans ?_)
        rw [TCells] at hU
        rw [← hU]
        clear hU
        refine (eval_any n₀ t c q1 cap1 lo U (TIn.below (bU.mono hn) t HT.out) (Nat.le_trans hn bU.size) (HC.out.below bU) (HLO.out.below bU) hlo1 (HE.out.below bU)).mono ?_
        rintro e U1 ⟨rfl, hb⟩
        have bU1 : Below w.heap.size w U1 := bU.trans (hb.mono bU.size)
        have u0 := (hb.block _ (Array.getElem?_eq_some_iff.1 u0).1).trans u0
        have u1 := (hb.block _ (Array.getElem?_eq_some_iff.1 u1).1).trans u1
        have y0 : U1.cell? ⟨w.heap.size, 0, none⟩ = some (.int .i64 t.kd) := by simp [World.cell?, u0, TCells]
        have y1 : U1.cell? ⟨w.heap.size, 1, none⟩ = some (.int .i64 t.n) := by simp [World.cell?, u0, TCells]
        have y2 : U1.cell? ⟨w.heap.size, 2, none⟩ = some (.int .i64 t.ev) := by simp [World.cell?, u0, TCells]
        have y3 : U1.cell? ⟨w.heap.size, 3, none⟩ = some (.bool t.bz) := by simp [World.cell?, u0, TCells]
        have y4 : U1.cell? ⟨w.heap.size, 4, none⟩ = some (.slice t.p t.kids.length t.cap) := by simp [World.cell?, u0, TCells]
        have z0 : U1.cell? ⟨w.heap.size + 1, 0, none⟩ = some (.bool c.b0) := by simp [World.cell?, u1]
        have z1 : U1.cell? ⟨w.heap.size + 1, 1, none⟩ = some (.bool c.b1) := by simp [World.cell?, u1]
        have z2 : U1.cell? ⟨w.heap.size + 1, 2, none⟩ = some (.bool c.b2) := by simp [World.cell?, u1]
        have z3 : U1.cell? ⟨w.heap.size + 1, 3, none⟩ = some (.bool c.b3) := by simp [World.cell?, u1]
        have z4 : U1.cell? ⟨w.heap.size + 1, 4, none⟩ = some (.bool c.b4) := by simp [World.cell?, u1]
        have z5 : U1.cell? ⟨w.heap.size + 1, 5, none⟩ = some (.bool c.b5) := by simp [World.cell?, u1]
        have z6 : U1.cell? ⟨w.heap.size + 1, 6, none⟩ = some (.bool c.b6) := by simp [World.cell?, u1]
        have z7 : U1.cell? ⟨w.heap.size + 1, 7, none⟩ = some (.slice c.p c.hs.length c.cap) := by simp [World.cell?, u1]
        rw [HEA.out]
        simp only [R3]
        clear hb
        go_wp2_with fail
        refine (eval_any n₀ t c q2 cap2 hi U1 (TIn.below (bU1.mono hn) t HT.out) (Nat.le_trans hn bU1.size) (HC.out.below bU1) (HHI.out.below bU1) hhi1 (HE.out.below bU1)).mono ?_
        rintro e U2 ⟨rfl, hb⟩
        have bU2 : Below w.heap.size w U2 := bU1.trans (hb.mono bU1.size)
        rw [HEB.out]
        simp only [R3]
        clear hb u0 u1 y0 y1 y2 y3 y4 z0 z1 z2 z3 z4 z5 z6 z7
        go_wp2_with fail
        refine (equal_calls q1 q2 cap1 cap2 lo hi U2 hlo1 (HLO.out.below bU2) (HHI.out.below bU2)).mono ?_
        rintro e U3 ⟨rfl, hb⟩
        rw [HOR.out]
        have bU3 : Below w.heap.size w U3 := bU2.trans (hb.mono bU2.size)
        clear hb
        go_wp2_with fail
        all_goals refine bodyPost_ret (v := .tuple #[.int .i64 a, .int .i64 b, .bool k1, .int .i64 0]) (by simp [results, Tryd.results13, go_sem]) rfl ⟨rfl, bU3⟩
      · rw [if_neg h4]
        clear h1
        go_enter Tryd.func13, Tryd.ntmps13
        go_wp2_with fail
        obtain ⟨U, hU⟩ : ∃ U, U = (w.alloc (.cells (TCells t) 24)).alloc (.cells #[.bool c.b0, .bool c.b1, .bool c.b2, .bool c.b3, .bool c.b4, .bool c.b5, .bool c.b6, .slice c.p c.hs.length c.cap] 28) := ⟨_, rfl⟩
        have bU : Below w.heap.size w U := by rw [hU]; exact (by repeat (first | exact Below.refl _ _ | assumption | refine below_drewN ?_ _ | refine Below.setCell ?_ (by first | (simp; done) | (simp; omega)) _ | refine Below.alloc ?_ (by first | (simp; done) | (simp; omega) | omega) _ | refine Below.drew ?_ | refine Below.trans ?_ (Below.mono (by assumption) (by first | (simp; done) | (simp; omega) | omega))))
        have u0 : U.heap[w.heap.size]? = some (.cells (TCells t) 24 (0, 0)) := by rw [hU]; repeat (first | exact heap_new (by simp) | refine (Below.heap_alloc _ _ _ (by first | (simp; done) | (simp; omega))).trans ?_)
        have u1 : U.heap[w.heap.size + 1]? = some (.cells #[.bool c.b0, .bool c.b1, .bool c.b2, .bool c.b3, .bool c.b4, .bool c.b5, .bool c.b6, .slice c.p c.hs.length c.cap] 28 (0, 0)) := by rw [hU]; repeat (first | exact heap_new (by simp) | refine (Below.heap_alloc _ _ _ (by first | (simp; done) | (simp; omega))).trans ?_)
        rw [TCells] at hU
        rw [← hU]
        clear hU
        refine (eval_any n₀ t c q1 cap1 lo U (TIn.below (bU.mono hn) t HT.out) (Nat.le_trans hn bU.size) (HC.out.below bU) (HLO.out.below bU) hlo1 (HE.out.below bU)).mono ?_
        rintro e U1 ⟨rfl, hb⟩
        have bU1 : Below w.heap.size w U1 := bU.trans (hb.mono bU.size)
        have u0 := (hb.block _ (Array.getElem?_eq_some_iff.1 u0).1).trans u0
        have u1 := (hb.block _ (Array.getElem?_eq_some_iff.1 u1).1).trans u1
        have y0 : U1.cell? ⟨w.heap.size, 0, none⟩ = some (.int .i64 t.kd) := by simp [World.cell?, u0, TCells]
        have y1 : U1.cell? ⟨w.heap.size, 1, none⟩ = some (.int .i64 t.n) := by simp [World.cell?, u0, TCells]
        have y2 : U1.cell? ⟨w.heap.size, 2, none⟩ = some (.int .i64 t.ev) := by simp [World.cell?, u0, TCells]
        have y3 : U1.cell? ⟨w.heap.size, 3, none⟩ = some (.bool t.bz) := by simp [World.cell?, u0, TCells]
        have y4 : U1.cell? ⟨w.heap.size, 4, none⟩ = some (.slice t.p t.kids.length t.cap) := by simp [World.cell?, u0, TCells]
        have z0 : U1.cell? ⟨w.heap.size + 1, 0, none⟩ = some (.bool c.b0) := by simp [World.cell?, u1]
        have z1 : U1.cell? ⟨w.heap.size + 1, 1, none⟩ = some (.bool c.b1) := by simp [World.cell?, u1]
        have z2 : U1.cell? ⟨w.heap.size + 1, 2, none⟩ = some (.bool c.b2) := by simp [World.cell?, u1]
        have z3 : U1.cell? ⟨w.heap.size + 1, 3, none⟩ = some (.bool c.b3) := by simp [World.cell?, u1]
        have z4 : U1.cell? ⟨w.heap.size + 1, 4, none⟩ = some (.bool c.b4) := by simp [World.cell?, u1]
        have z5 : U1.cell? ⟨w.heap.size + 1, 5, none⟩ = some (.bool c.b5) := by simp [World.cell?, u1]
        have z6 : U1.cell? ⟨w.heap.size + 1, 6, none⟩ = some (.bool c.b6) := by simp [World.cell?, u1]
        have z7 : U1.cell? ⟨w.heap.size + 1, 7, none⟩ = some (.slice c.p c.hs.length c.cap) := by simp [World.cell?, u1]
        rw [HEA.out]
        simp only [R3]
        clear hb
        go_wp2_with fail
        refine (eval_any n₀ t c q2 cap2 hi U1 (TIn.below (bU1.mono hn) t HT.out) (Nat.le_trans hn bU1.size) (HC.out.below bU1) (HHI.out.below bU1) hhi1 (HE.out.below bU1)).mono ?_
        rintro e U2 ⟨rfl, hb⟩
        have bU2 : Below w.heap.size w U2 := bU1.trans (hb.mono bU1.size)
        rw [HEB.out]
        simp only [R3]
        clear hb u0 u1 y0 y1 y2 y3 y4 z0 z1 z2 z3 z4 z5 z6 z7
        go_wp2_with fail
        refine (equal_calls q1 q2 cap1 cap2 lo hi U2 hlo1 (HLO.out.below bU2) (HHI.out.below bU2)).mono ?_
        rintro e U3 ⟨rfl, hb⟩
        rw [HOR.out]
        have bU3 : Below w.heap.size w U3 := bU2.trans (hb.mono bU2.size)
        clear hb
        go_wp2_with fail
        all_goals refine bodyPost_ret (v := .tuple #[.int .i64 0, .int .i64 0, .bool false, .int .i64 2]) (by simp [results, Tryd.results13, go_sem]) rfl ⟨rfl, bU3⟩
    · rw [if_neg h3]
      have h1b : (e1 == 1) = false := beq_eq_false_iff_ne.2 h1
      have h2b : (e2 == 1) = false := beq_eq_false_iff_ne.2 h2
      go_enter Tryd.func13, Tryd.ntmps13
      go_wp2_with fail
      obtain ⟨U, hU⟩ : ∃ U, U = (w.alloc (.cells (TCells t) 24)).alloc (.cells #[.bool c.b0, .bool c.b1, .bool c.b2, .bool c.b3, .bool c.b4, .bool c.b5, .bool c.b6, .slice c.p c.hs.length c.cap] 28) := ⟨_, rfl⟩
      have bU : Below w.heap.size w U := by rw [hU]; exact (by repeat (first | exact Below.refl _ _ | assumption | refine below_drewN ?_ _ | refine Below.setCell ?_ (by first | (simp; done) | (simp; omega)) _ | refine Below.alloc ?_ (by first | (simp; done) | (simp; omega) | omega) _ | refine Below.drew ?_ | refine Below.trans ?_ (Below.mono (by assumption) (by first | (simp; done) | (simp; omega) | omega))))
      have u0 : U.heap[w.heap.size]? = some (.cells (TCells t) 24 (0, 0)) := by rw [hU]; repeat (first | exact heap_new (by simp) | refine (Below.heap_alloc _ _ _ (by first | (simp; done) | (simp; omega))).trans ?_)
      have u1 : U.heap[w.heap.size + 1]? = some (.cells #[.bool c.b0, .bool c.b1, .bool c.b2, .bool c.b3, .bool c.b4, .bool c.b5, .bool c.b6, .slice c.p c.hs.length c.cap] 28 (0, 0)) := by rw [hU]; repeat (first | exact heap_new (by simp) | refine (Below.heap_alloc _ _ _ (by first | (simp; done) | (simp; omega))).trans ?_)
      rw [TCells] at hU
      rw [← hU]
      clear hU
      refine (eval_any n₀ t c q1 cap1 lo U (TIn.below (bU.mono hn) t HT.out) (Nat.le_trans hn bU.size) (HC.out.below bU) (HLO.out.below bU) hlo1 (HE.out.below bU)).mono ?_
      rintro e U1 ⟨rfl, hb⟩
      have bU1 : Below w.heap.size w U1 := bU.trans (hb.mono bU.size)
      have u0 := (hb.block _ (Array.getElem?_eq_some_iff.1 u0).1).trans u0
      have u1 := (hb.block _ (Array.getElem?_eq_some_iff.1 u1).1).trans u1
      have y0 : U1.cell? ⟨w.heap.size, 0, none⟩ = some (.int .i64 t.kd) := by simp [World.cell?, u0, TCells]
      have y1 : U1.cell? ⟨w.heap.size, 1, none⟩ = some (.int .i64 t.n) := by simp [World.cell?, u0, TCells]
      have y2 : U1.cell? ⟨w.heap.size, 2, none⟩ = some (.int .i64 t.ev) := by simp [World.cell?, u0, TCells]
      have y3 : U1.cell? ⟨w.heap.size, 3, none⟩ = some (.bool t.bz) := by simp [World.cell?, u0, TCells]
      have y4 : U1.cell? ⟨w.heap.size, 4, none⟩ = some (.slice t.p t.kids.length t.cap) := by simp [World.cell?, u0, TCells]
      have z0 : U1.cell? ⟨w.heap.size + 1, 0, none⟩ = some (.bool c.b0) := by simp [World.cell?, u1]
      have z1 : U1.cell? ⟨w.heap.size + 1, 1, none⟩ = some (.bool c.b1) := by simp [World.cell?, u1]
      have z2 : U1.cell? ⟨w.heap.size + 1, 2, none⟩ = some (.bool c.b2) := by simp [World.cell?, u1]
      have z3 : U1.cell? ⟨w.heap.size + 1, 3, none⟩ = some (.bool c.b3) := by simp [World.cell?, u1]
      have z4 : U1.cell? ⟨w.heap.size + 1, 4, none⟩ = some (.bool c.b4) := by simp [World.cell?, u1]
      have z5 : U1.cell? ⟨w.heap.size + 1, 5, none⟩ = some (.bool c.b5) := by simp [World.cell?, u1]
      have z6 : U1.cell? ⟨w.heap.size + 1, 6, none⟩ = some (.bool c.b6) := by simp [World.cell?, u1]
      have z7 : U1.cell? ⟨w.heap.size + 1, 7, none⟩ = some (.slice c.p c.hs.length c.cap) := by simp [World.cell?, u1]
      rw [HEA.out]
      simp only [R3]
      clear hb
      go_wp2_with fail
      refine (eval_any n₀ t c q2 cap2 hi U1 (TIn.below (bU1.mono hn) t HT.out) (Nat.le_trans hn bU1.size) (HC.out.below bU1) (HHI.out.below bU1) hhi1 (HE.out.below bU1)).mono ?_
      rintro e U2 ⟨rfl, hb⟩
      have bU2 : Below w.heap.size w U2 := bU1.trans (hb.mono bU1.size)
      rw [HEB.out]
      simp only [R3]
      clear hb u0 u1 y0 y1 y2 y3 y4 z0 z1 z2 z3 z4 z5 z6 z7
      go_wp2_with fail
      refine (equal_calls q1 q2 cap1 cap2 lo hi U2 hlo1 (HLO.out.below bU2) (HHI.out.below bU2)).mono ?_
      rintro e U3 ⟨rfl, hb⟩
      rw [HOR.out]
      have bU3 : Below w.heap.size w U3 := bU2.trans (hb.mono bU2.size)
      clear hb
      go_wp2_with fail
      all_goals refine bodyPost_ret (v := .tuple #[.int .i64 0, .int .i64 0, .bool false, .int .i64 2]) (by simp [results, Tryd.results13, go_sem]) rfl ⟨rfl, bU3⟩
end Go.Proofs.YtlbfnafniobnaaaDoor

/- What a node of a kind may have; fits. -/
import Derived.Test.YtlbfnafniobnaaaDoorDlC
import Derived.Lib.Hide
namespace Go.Proofs.YtlbfnafniobnaaaDoor
open Go.RowKit Go.Shelf

/-- what the nodes of a kind may have -/
structure Sh where
  most : Int
  event : Bool
  business : Bool
  few : Int
  many : Int
def SVal (s : Sh) : Value := .agg #[.int .i64 s.most, .bool s.event, .bool s.business, .int .i64 s.few, .int .i64 s.many]
def shapeT : List (Int × Sh) := [(1, ⟨73048, false, false, 0, 0⟩), (2, ⟨0, true, false, 0, 0⟩), (3, ⟨1440, true, false, 0, 0⟩), (4, ⟨1000, false, true, 1, 1⟩), (5, ⟨120, false, false, 1, 1⟩), (6, ⟨0, false, false, 1, 1⟩), (7, ⟨0, false, false, 1, 40⟩), (8, ⟨0, false, false, 1, 40⟩)]
theorem shapeL_eq : shapeL = shapeT.map fun x => (x.1, SVal x.2) := rfl
theorem lookup_map {α : Type} (f : α → Value) (k : Int) : ∀ l : List (Int × α), (l.map fun x => (x.1, f x.2)).lookup k = (l.lookup k).map f
  | [] => rfl
  | (a, b) :: l => by
    rw [List.map_cons, List.lookup, List.lookup]
    cases k == a with
    | true => rfl
    | false => exact lookup_map f k l
def shp (k : Int) : Option Sh := shapeT.lookup k
theorem shapeL_look (k : Int) : shapeL.lookup k = (shp k).map SVal := by rw [shapeL_eq, lookup_map]; rfl
def fitB (s : Sh) (t : Dl.T) (ev : Int) : Bool :=
  ((decide (0 ≤ t.n) && decide (t.n ≤ s.most)) && (decide (0 ≤ t.ev) && decide (t.ev ≤ (if s.event then ev else 1) - 1))) && ((s.business || !t.bz) && (decide (s.few ≤ t.kids.length) && decide ((t.kids.length : Int) ≤ s.many)))
set_option maxRecDepth 100000 in
set_option maxHeartbeats 1600000 in
theorem fits_go (most few many a0 n ev d e1 : Int) (event business bz b1 b2 b3 r : Bool) (p : Option Addr) (cap m : Nat) (kd : Int) (w : World) (he : (if event then a0 else 1) - 1 = e1) (ha0 : 0 ≤ a0) (ha1 : a0 ≤ 1000)
    (h1 : (decide (0 ≤ n) && decide (n ≤ most)) = b1) (h2 : (decide (0 ≤ ev) && decide (ev ≤ e1)) = b2) (h3 : (decide (few ≤ (m : Int)) && decide ((m : Int) ≤ many)) = b3) (hr : ((b1 && b2) && ((business || !bz) && b3)) = r) :
    Calls Tryd.prog 36 #[.agg #[.int .i64 most, .bool event, .bool business, .int .i64 few, .int .i64 many], .agg #[.int .i64 kd, .int .i64 n, .int .i64 ev, .bool bz, .slice p m cap, .int .i64 d], .int .i64 a0] w fun e w' => e = .returned (.bool r) ∧ Below w.heap.size w w' := by
  have H1 := Lib.hid h1
  have H2 := Lib.hid h2
  have H3 := Lib.hid h3
  have hr' := hr
  clear h1 h2 h3 hr
  go_enter Tryd.func36, Tryd.ntmps36
  cases event
  case false =>
    simp only [Bool.false_eq_true, if_false] at he
    obtain rfl : e1 = 0 := by omega
    clear he
    cases b1
    · go_wp2_with fail
      refine (within_calls _ _ _ _).mono ?_
      rintro e w' ⟨rfl, rfl⟩
      rw [H1.out]
      go_wp2_with fail
      go_ret
      exact ⟨by rw [← hr']; rfl, (by repeat (first | exact Below.refl _ _ | assumption | refine below_drewN ?_ _ | refine Below.setCell ?_ (by first | (simp; done) | (simp; omega)) _ | refine Below.alloc ?_ (by first | (simp; done) | (simp; omega) | omega) _ | refine Below.drew ?_ | refine Below.trans ?_ (Below.mono (by assumption) (by first | (simp; done) | (simp; omega) | omega))))⟩
    · cases b2
      · go_wp2_with fail
        refine (within_calls _ _ _ _).mono ?_
        rintro e w' ⟨rfl, rfl⟩
        rw [H1.out]
        go_wp2_with fail
        refine (within_calls _ _ _ _).mono ?_
        rintro e w' ⟨rfl, rfl⟩
        rw [H2.out]
        go_wp2_with fail
        go_ret
        exact ⟨by rw [← hr']; rfl, (by repeat (first | exact Below.refl _ _ | assumption | refine below_drewN ?_ _ | refine Below.setCell ?_ (by first | (simp; done) | (simp; omega)) _ | refine Below.alloc ?_ (by first | (simp; done) | (simp; omega) | omega) _ | refine Below.drew ?_ | refine Below.trans ?_ (Below.mono (by assumption) (by first | (simp; done) | (simp; omega) | omega))))⟩
      · cases business
        · cases bz
          · go_wp2_with fail
            refine (within_calls _ _ _ _).mono ?_
            rintro e w' ⟨rfl, rfl⟩
            rw [H1.out]
            go_wp2_with fail
            refine (within_calls _ _ _ _).mono ?_
            rintro e w' ⟨rfl, rfl⟩
            rw [H2.out]
            go_wp2_with fail
            refine (within_calls _ _ _ _).mono ?_
            rintro e w' ⟨rfl, rfl⟩
            rw [H3.out]
            go_wp2_with fail
            go_ret
            exact ⟨by rw [← hr']; rfl, (by repeat (first | exact Below.refl _ _ | assumption | refine below_drewN ?_ _ | refine Below.setCell ?_ (by first | (simp; done) | (simp; omega)) _ | refine Below.alloc ?_ (by first | (simp; done) | (simp; omega) | omega) _ | refine Below.drew ?_ | refine Below.trans ?_ (Below.mono (by assumption) (by first | (simp; done) | (simp; omega) | omega))))⟩
          · go_wp2_with fail
            refine (within_calls _ _ _ _).mono ?_
            rintro e w' ⟨rfl, rfl⟩
            rw [H1.out]
            go_wp2_with fail
            refine (within_calls _ _ _ _).mono ?_
            rintro e w' ⟨rfl, rfl⟩
            rw [H2.out]
            go_wp2_with fail
            go_ret
            exact ⟨by rw [← hr']; rfl, (by repeat (first | exact Below.refl _ _ | assumption | refine below_drewN ?_ _ | refine Below.setCell ?_ (by first | (simp; done) | (simp; omega)) _ | refine Below.alloc ?_ (by first | (simp; done) | (simp; omega) | omega) _ | refine Below.drew ?_ | refine Below.trans ?_ (Below.mono (by assumption) (by first | (simp; done) | (simp; omega) | omega))))⟩
        · go_wp2_with fail
          refine (within_calls _ _ _ _).mono ?_
          rintro e w' ⟨rfl, rfl⟩
          rw [H1.out]
          go_wp2_with fail
          refine (within_calls _ _ _ _).mono ?_
          rintro e w' ⟨rfl, rfl⟩
          rw [H2.out]
          go_wp2_with fail
          refine (within_calls _ _ _ _).mono ?_
          rintro e w' ⟨rfl, rfl⟩
          rw [H3.out]
          go_wp2_with fail
          go_ret
          exact ⟨by rw [← hr']; rfl, (by repeat (first | exact Below.refl _ _ | assumption | refine below_drewN ?_ _ | refine Below.setCell ?_ (by first | (simp; done) | (simp; omega)) _ | refine Below.alloc ?_ (by first | (simp; done) | (simp; omega) | omega) _ | refine Below.drew ?_ | refine Below.trans ?_ (Below.mono (by assumption) (by first | (simp; done) | (simp; omega) | omega))))⟩
  case true =>
    simp only [if_true] at he
    subst he
    cases b1
    · go_wp2_with fail
      refine (within_calls _ _ _ _).mono ?_
      rintro e w' ⟨rfl, rfl⟩
      rw [H1.out]
      go_wp2_with fail
      go_ret
      exact ⟨by rw [← hr']; rfl, (by repeat (first | exact Below.refl _ _ | assumption | refine below_drewN ?_ _ | refine Below.setCell ?_ (by first | (simp; done) | (simp; omega)) _ | refine Below.alloc ?_ (by first | (simp; done) | (simp; omega) | omega) _ | refine Below.drew ?_ | refine Below.trans ?_ (Below.mono (by assumption) (by first | (simp; done) | (simp; omega) | omega))))⟩
    · cases b2
      · go_wp2_with fail
        refine (within_calls _ _ _ _).mono ?_
        rintro e w' ⟨rfl, rfl⟩
        rw [H1.out]
        go_wp2_with fail
        refine (within_calls _ _ _ _).mono ?_
        rintro e w' ⟨rfl, rfl⟩
        rw [H2.out]
        go_wp2_with fail
        go_ret
        exact ⟨by rw [← hr']; rfl, (by repeat (first | exact Below.refl _ _ | assumption | refine below_drewN ?_ _ | refine Below.setCell ?_ (by first | (simp; done) | (simp; omega)) _ | refine Below.alloc ?_ (by first | (simp; done) | (simp; omega) | omega) _ | refine Below.drew ?_ | refine Below.trans ?_ (Below.mono (by assumption) (by first | (simp; done) | (simp; omega) | omega))))⟩
      · cases business
        · cases bz
          · go_wp2_with fail
            refine (within_calls _ _ _ _).mono ?_
            rintro e w' ⟨rfl, rfl⟩
            rw [H1.out]
            go_wp2_with fail
            refine (within_calls _ _ _ _).mono ?_
            rintro e w' ⟨rfl, rfl⟩
            rw [H2.out]
            go_wp2_with fail
            refine (within_calls _ _ _ _).mono ?_
            rintro e w' ⟨rfl, rfl⟩
            rw [H3.out]
            go_wp2_with fail
            go_ret
            exact ⟨by rw [← hr']; rfl, (by repeat (first | exact Below.refl _ _ | assumption | refine below_drewN ?_ _ | refine Below.setCell ?_ (by first | (simp; done) | (simp; omega)) _ | refine Below.alloc ?_ (by first | (simp; done) | (simp; omega) | omega) _ | refine Below.drew ?_ | refine Below.trans ?_ (Below.mono (by assumption) (by first | (simp; done) | (simp; omega) | omega))))⟩
          · go_wp2_with fail
            refine (within_calls _ _ _ _).mono ?_
            rintro e w' ⟨rfl, rfl⟩
            rw [H1.out]
            go_wp2_with fail
            refine (within_calls _ _ _ _).mono ?_
            rintro e w' ⟨rfl, rfl⟩
            rw [H2.out]
            go_wp2_with fail
            go_ret
            exact ⟨by rw [← hr']; rfl, (by repeat (first | exact Below.refl _ _ | assumption | refine below_drewN ?_ _ | refine Below.setCell ?_ (by first | (simp; done) | (simp; omega)) _ | refine Below.alloc ?_ (by first | (simp; done) | (simp; omega) | omega) _ | refine Below.drew ?_ | refine Below.trans ?_ (Below.mono (by assumption) (by first | (simp; done) | (simp; omega) | omega))))⟩
        · go_wp2_with fail
          refine (within_calls _ _ _ _).mono ?_
          rintro e w' ⟨rfl, rfl⟩
          rw [H1.out]
          go_wp2_with fail
          refine (within_calls _ _ _ _).mono ?_
          rintro e w' ⟨rfl, rfl⟩
          rw [H2.out]
          go_wp2_with fail
          refine (within_calls _ _ _ _).mono ?_
          rintro e w' ⟨rfl, rfl⟩
          rw [H3.out]
          go_wp2_with fail
          go_ret
          exact ⟨by rw [← hr']; rfl, (by repeat (first | exact Below.refl _ _ | assumption | refine below_drewN ?_ _ | refine Below.setCell ?_ (by first | (simp; done) | (simp; omega)) _ | refine Below.alloc ?_ (by first | (simp; done) | (simp; omega) | omega) _ | refine Below.drew ?_ | refine Below.trans ?_ (Below.mono (by assumption) (by first | (simp; done) | (simp; omega) | omega))))⟩
theorem fits_calls (s : Sh) (x : Dl.T × Nat) (a0 : Int) (w : World) (ha0 : 0 ≤ a0) (ha1 : a0 ≤ 1000) :
    Calls Tryd.prog 36 #[SVal s, NV x, .int .i64 a0] w fun e w' => e = .returned (.bool (fitB s x.1 a0)) ∧ Below w.heap.size w w' :=
  fits_go s.most s.few s.many a0 x.1.n x.1.ev (x.2 : Nat) _ s.event s.business x.1.bz _ _ _ _ x.1.p x.1.cap x.1.kids.length x.1.kd w rfl ha0 ha1 rfl rfl rfl rfl
/-- whether a node is as its kind asks, for a number of events -/
def okN (t : Dl.T) (ev : Int) : Bool := match shp t.kd with
  | none => false
  | some s => fitB s t ev
/-- the nodes one by one: c nodes have come -/
def vld (ev : Int) : Nat → List (Dl.T × Nat) → Bool
  | _, [] => true
  | c, x :: l => (okN x.1 ev && decide (c < 40) && decide (x.2 ≤ 10)) && vld ev (c + 1) l
def validT (t : Dl.T) (ev : Int) : Bool := (decide (0 ≤ ev) && decide (ev ≤ 1000)) && vld ev 0 (Dl.nds t 1)
theorem vld_append (ev : Int) : ∀ (a b : List (Dl.T × Nat)) (c : Nat), vld ev c (a ++ b) = (vld ev c a && vld ev (c + a.length) b)
  | [], _, _ => rfl
  | x :: a, b, c => by
    rw [List.cons_append, vld, vld, vld_append ev a b (c + 1), List.length_cons, Bool.and_assoc, Nat.add_assoc, Nat.add_comm 1, Bool.and_assoc, Bool.and_assoc, Bool.and_assoc, Bool.and_assoc]
theorem vld_len (ev : Int) : ∀ (a : List (Dl.T × Nat)) (c : Nat), c ≤ 40 → vld ev c a = true → c + a.length ≤ 40
  | [], _, h, _ => h
  | x :: a, c, _, h => by
    rw [vld] at h
    simp only [Bool.and_eq_true, decide_eq_true_eq] at h
    have := vld_len ev a (c + 1) (by omega) h.2
    rw [List.length_cons]
    omega
end Go.Proofs.YtlbfnafniobnaaaDoor

/- Same; the law's own small functions. -/
import Derived.Test.YtpdknjbhnelidaaQtO
namespace Go.Proofs.Ytpdknjbhnelidaa
open Go.RowKit

/-- are two lists of ratios equal -/
def sameL : List Qn.R → List Qn.R → Bool
  | [], _ => true
  | _ :: _, [] => false
  | x :: a, y :: b => (x.1 == y.1 && x.2 == y.2) && sameL a b
theorem sameL_iff : ∀ (a b : List Qn.R), a.length = b.length → (sameL a b = true ↔ a = b)
  | [], [], _ => by simp [sameL]
  | [], y :: b, h => by simp at h
  | x :: a, [], h => by simp at h
  | x :: a, y :: b, h => by
    have ih := sameL_iff a b (by simpa using h)
    simp only [sameL, Bool.and_eq_true, beq_iff_eq, ih, List.cons.injEq]
    exact ⟨fun h => ⟨Prod.ext h.1.1 h.1.2, h.2⟩, fun h => ⟨⟨by rw [h.1], by rw [h.1]⟩, h.2⟩⟩
def sameB (a b : List Qn.R) : Bool := a.length == b.length && sameL a b
theorem sameB_iff (a b : List Qn.R) : sameB a b = true ↔ a = b := by
  unfold sameB
  rw [Bool.and_eq_true, beq_iff_eq]
  exact ⟨fun h => (sameL_iff a b h.1).1 h.2, fun h => ⟨by rw [h], (sameL_iff a b (by rw [h])).2 h⟩⟩
theorem same_len (p q : Option Addr) (n m cap cap2 : Nat) (w : World) (hne : ((n : Int) != (m : Int)) = true) :
    Calls Try.prog 16 #[.slice p n cap, .slice q m cap2] w fun e w' => e = .returned (.bool false) ∧ Below w.heap.size w w' := by
  go_enter Try.func16, Try.ntmps16
  go_wp2_with fail
  go_ret
  exact ⟨rfl, (by repeat (first | exact Below.refl _ _ | assumption | refine below_drewN ?_ _ | refine Below.setCell ?_ (by first | (simp; done) | (simp; omega)) _ | refine Below.alloc ?_ (by first | (simp; done) | (simp; omega) | omega) _ | refine Below.drew ?_ | refine Below.trans ?_ (Below.mono (by assumption) (by first | (simp; done) | (simp; omega) | omega))))⟩
set_option maxRecDepth 100000 in
set_option maxHeartbeats 3200000 in
theorem same_walk (p q : Option Addr) (cap cap2 : Nat) (a b : List Qn.R) (res : Bool) (w : World) (hl : a.length = b.length) (hn : a.length ≤ 1000) (ha : Rats w p a) (hb : Rats w q b) (hres : sameL a b = res) :
    Calls Try.prog 16 #[.slice p a.length cap, .slice q b.length cap2] w fun e w' => e = .returned (.bool res) ∧ Below w.heap.size w w' := by
  have HA := Lib.hid ha
  have HB := Lib.hid hb
  have HRES := Lib.hid hres
  have hne : ((a.length : Int) != (b.length : Int)) = false := by simp [hl]
  have HL := Lib.hid hl
  clear ha hb hres hl
  go_enter Try.func16, Try.ntmps16
  go_wp2_with fail
  go_loopw [5] (fun i wr => ∃ k : Nat, i = .int .i64 k ∧ k ≤ a.length ∧ sameL (a.drop k) (b.drop k) = res ∧ Below w.heap.size w wr) (fun i _ => a.length - (intOf i).toNat)
  case atStart => exact ⟨0, rfl, Nat.zero_le _, HRES.out, Below.refl _ _⟩
  case round =>
    obtain ⟨k, rfl, hk, hrk, hbw⟩ := hrel
    have HRK := Lib.hid hrk
    have HBW := Lib.hid hbw
    clear hrk hbw
    by_cases hlt : k < a.length
    · have hlb : k < b.length := by have := HL.out; omega
      have hu : a[k]? = some a[k] := List.getElem?_eq_getElem hlt
      have hv : b[k]? = some b[k] := List.getElem?_eq_getElem hlb
      have hd : a.drop k = a[k] :: a.drop (k + 1) := List.drop_eq_getElem_cons hlt
      have hd2 : b.drop k = b[k] :: b.drop (k + 1) := List.drop_eq_getElem_cons hlb
      generalize a[k] = x at hu hd
      generalize b[k] = y at hv hd2
      have hrk := HRK.out
      rw [hd, hd2, sameL] at hrk
      obtain ⟨ba, offa, rfl, hca, _, hbla⟩ := (HA.out.below HBW.out).at hu
      obtain ⟨bb, offb, rfl, hcb, _, hblb⟩ := (HB.out.below HBW.out).at hv
      obtain ⟨c0, c1⟩ := hca
      obtain ⟨d0, d1⟩ := hcb
      have hi0 : (0 : Int) ≤ (k : Int) := by omega
      have hi1 : (k : Int) < (a.length : Int) := by omega
      have hi2 : (k : Int) < (b.length : Int) := by omega
      clear hu hv hd hd2
      cases h1 : x.1 == y.1
      · rw [h1, Bool.false_and, Bool.false_and] at hrk
        obtain rfl : false = res := hrk
        go_wp2_with fail
        go_quiet (fail)
        go_wp2_with fail
        go_ret
        exact ⟨rfl, below_drewN HBW.out _⟩
      cases h2 : x.2 == y.2
      · rw [h1, h2, Bool.and_false, Bool.false_and] at hrk
        obtain rfl : false = res := hrk
        go_wp2_with fail
        go_quiet (fail)
        go_wp2_with fail
        go_ret
        exact ⟨rfl, below_drewN HBW.out _⟩
      · rw [h1, h2, Bool.true_and, Bool.true_and] at hrk
        have HN := Lib.hid hrk
        clear hrk
        go_wp2_with fail
        go_quiet (fail)
        go_wp2_with fail
        go_roundw
        case rel => exact ⟨k + 1, by simp, hlt, HN.out, below_drewN HBW.out _⟩
        case measure =>
          simp only [intOf]
          exact meas_lt hlt
    · have hrk := HRK.out
      rw [List.drop_eq_nil_of_le (show a.length ≤ k by omega)] at hrk
      obtain rfl : true = res := hrk
      go_wp2_with fail
      go_ret
      exact ⟨rfl, HBW.out⟩
theorem same_any (p q : Option Addr) (cap cap2 : Nat) (a b : List Qn.R) (w : World) (hn : a.length ≤ 1000) (ha : Rats w p a) (hb : Rats w q b) :
    Calls Try.prog 16 #[.slice p a.length cap, .slice q b.length cap2] w fun e w' => e = .returned (.bool (sameB a b)) ∧ Below w.heap.size w w' := by
  unfold sameB
  by_cases h : a.length = b.length
  · rw [show (a.length == b.length) = true from beq_iff_eq.2 h, Bool.true_and]
    exact same_walk p q cap cap2 a b _ w h hn ha hb rfl
  · rw [show (a.length == b.length) = false from beq_eq_false_iff_ne.2 h, Bool.false_and]
    exact same_len p q a.length b.length cap cap2 w (bne_iff_ne.2 (by omega))
/-- a table that is small enough, from the index k on -/
def smF : Nat → List Qn.Un → Bool
  | _, [] => true
  | k, u :: l => !decide (25 ≤ k) && !decide (100 < u.nm.length) && smF (k + 1) l
def smallB (us : List Qn.Un) (n : Nat) : Bool := smF 0 us && decide (n ≤ 60)
theorem smF_len : ∀ (l : List Qn.Un) (k : Nat), smF k l = true → (l = [] ∨ k + l.length ≤ 25) ∧ ∀ u ∈ l, u.nm.length ≤ 100
  | [], k, _ => ⟨.inl rfl, by simp⟩
  | u :: l, k, h => by
    simp only [smF, Bool.and_eq_true, Bool.not_eq_true', decide_eq_false_iff_not] at h
    obtain ⟨h1, h2⟩ := smF_len l (k + 1) h.2
    refine ⟨.inr ?_, ?_⟩
    · rcases h1 with rfl | h1
      · simp; omega
      · rw [List.length_cons]; omega
    · intro v hv
      rcases List.mem_cons.1 hv with rfl | hv
      · omega
      · exact h2 v hv
theorem small_yes {us : List Qn.Un} {n : Nat} (h : smallB us n = true) : us.length ≤ 25 ∧ n ≤ 60 ∧ ∀ u ∈ us, u.nm.length ≤ 100 := by
  unfold smallB at h
  rw [Bool.and_eq_true, decide_eq_true_eq] at h
  obtain ⟨h1, h2⟩ := smF_len us 0 h.1
  exact ⟨by rcases h1 with rfl | h1 <;> simp_all, h.2, h2⟩
set_option maxRecDepth 100000 in
set_option maxHeartbeats 3200000 in
theorem small_any (p q : Option Addr) (cap n cap2 : Nat) (us : List Qn.Un) (r : Bool) (w : World) (ht : Tab w p us) (hr : smallB us n = r) :
    Calls Try.prog 5 #[.slice p us.length cap, .slice q n cap2] w fun e w' => e = .returned (.bool r) ∧ Below w.heap.size w w' := by
  have HT := Lib.hid ht
  have HR := Lib.hid hr
  clear ht hr
  go_enter Try.func5, Try.ntmps5
  go_wp2_with fail
  go_loopw [5] (fun i wr => ∃ k : Nat, i = .int .i64 k ∧ k ≤ us.length ∧ k ≤ 25 ∧ (smF k (us.drop k) && decide (n ≤ 60)) = r ∧ wr = w) (fun i _ => us.length - (intOf i).toNat)
  case atStart => exact ⟨0, rfl, Nat.zero_le _, Nat.zero_le _, HR.out, rfl⟩
  case round =>
    obtain ⟨k, rfl, hk, hk25, hrk, rfl⟩ := hrel
    by_cases hlt : k < us.length
    · have hu : us[k]? = some us[k] := List.getElem?_eq_getElem hlt
      have hd : us.drop k = us[k] :: us.drop (k + 1) := List.drop_eq_getElem_cons hlt
      generalize us[k] = u at hu hd
      rw [hd, smF] at hrk
      obtain ⟨b, off, rfl, hc, _, hbl⟩ := HT.out.at hu
      obtain ⟨c0, _, _, _, _⟩ := hc
      clear hu hd
      by_cases h25 : 25 ≤ k
      · rw [decide_eq_true h25] at hrk
        obtain rfl : false = r := hrk
        go_wp2_with fail
        go_ret
        exact ⟨rfl, Below.refl _ _⟩
      by_cases h100 : 100 < u.nm.length
      · rw [decide_eq_false h25, decide_eq_true h100] at hrk
        obtain rfl : false = r := hrk
        go_wp2_with fail
        go_ret
        exact ⟨rfl, Below.refl _ _⟩
      · rw [decide_eq_false h25, decide_eq_false h100] at hrk
        have HN := Lib.hid (show (smF (k + 1) (us.drop (k + 1)) && decide (n ≤ 60)) = r from hrk)
        clear hrk
        go_wp2_with fail
        go_roundw
        case rel => exact ⟨k + 1, by simp, hlt, by omega, HN.out, trivial⟩
        case measure =>
          simp only [intOf]
          exact meas_lt hlt
    · rw [List.drop_eq_nil_of_le (show us.length ≤ k by omega), smF, Bool.true_and] at hrk
      subst hrk
      go_wp2_with fail
      go_ret
      exact ⟨by simp; omega, Below.refl _ _⟩
theorem of_any (n d u : Int) (w : World) : Calls Try.prog 18 #[.int .i64 n, .int .i64 d, .int .i64 u] w fun e w' => e = .returned (.agg #[.int .i64 u, .int .i64 n, .int .i64 d]) ∧ Below w.heap.size w w' := by
  go_enter Try.func18, Try.ntmps18
  go_wp2_with fail
  refine bodyPost_ret (v := .agg #[.int .i64 u, .int .i64 n, .int .i64 d]) (by simp [results, Try.results18, go_sem]) rfl ⟨rfl, (by repeat (first | exact Below.refl _ _ | assumption | refine below_drewN ?_ _ | refine Below.setCell ?_ (by first | (simp; done) | (simp; omega)) _ | refine Below.alloc ?_ (by first | (simp; done) | (simp; omega) | omega) _ | refine Below.drew ?_ | refine Below.trans ?_ (Below.mono (by assumption) (by first | (simp; done) | (simp; omega) | omega))))⟩
def exCells (b : Int) : Array Value := #[.string ⟨#[116]⟩, .int .i64 1, .int .i64 0, .int .i64 1, .int .i64 1, .string ⟨#[107, 103]⟩, .int .i64 1, .int .i64 0, .int .i64 1, .int .i64 1000, .string ⟨#[69, 85, 82]⟩, .int .i64 2, .int .i64 2, .int .i64 1, .int .i64 1, .string ⟨#[99, 116]⟩, .int .i64 2, .int .i64 b, .int .i64 1, .int .i64 100]
theorem heap_new {w : World} {o : Obj} {n : Nat} (h : n = w.heap.size) : (w.alloc o).heap[n]? = some o := by rw [h]; exact World.alloc_heap_new w o
theorem table_calls (w : World) : Calls Try.prog 17 #[] w fun e w' => ∃ g, e = .returned (.slice (some ⟨g, 0, none⟩) 4 4) ∧ w.heap.size ≤ g ∧ w'.heap[g]? = some (.cells (exCells 2) 44 (0, 0)) ∧ Below w.heap.size w w' := by
  go_enter Try.func17, Try.ntmps17
  go_wp2_with fail
  go_ret
  exact ⟨_, rfl, by simp, heap_new (by simp), (by repeat (first | exact Below.refl _ _ | assumption | refine below_drewN ?_ _ | refine Below.setCell ?_ (by first | (simp; done) | (simp; omega)) _ | refine Below.alloc ?_ (by first | (simp; done) | (simp; omega) | omega) _ | refine Below.drew ?_ | refine Below.trans ?_ (Below.mono (by assumption) (by first | (simp; done) | (simp; omega) | omega))))⟩
end Go.Proofs.Ytpdknjbhnelidaa

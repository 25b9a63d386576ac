/- The search of a table, and of amounts. -/
import Derived.Test.YtpdknjbhnelidaaQtA
namespace Go.Proofs.Ytpdknjbhnelidaa
open Go.RowKit

/-- the index of the first element for which g holds, from k on; -1 -/
def ixF {α : Type} (g : α → Bool) : Nat → List α → Int
  | _, [] => -1
  | k, x :: l => if g x then (k : Int) else ixF g (k + 1) l
theorem ixF_any {α : Type} (g : α → Bool) : ∀ (l : List α) (k : Nat), decide (0 ≤ ixF g k l) = l.any g
  | [], _ => rfl
  | x :: l, k => by
    rw [ixF, List.any_cons]
    cases hg : g x
    · simp only [Bool.false_eq_true, if_false, Bool.false_or]
      exact ixF_any g l (k + 1)
    · simp
theorem meas_lt {n k : Nat} (h : k < n) : n - ((k : Int) + 1).toNat < n - (k : Int).toNat := by omega
set_option maxRecDepth 100000 in
set_option maxHeartbeats 1600000 in
theorem unit_index (ub : Nat) (p : Option Addr) (cap : Nat) (l : List Qn.Un) (g : Qn.Un → Bool) (r : Int) (w : World) (hn : l.length ≤ 1000) (ht : Tab w p l) (hr : r = ixF g 0 l)
    (hf : ∀ (k : Nat) v w', l[k]? = some v → Below w.heap.size w w' → Calls Try.prog 37 #[UV v, .pointer (some ⟨ub, 0, none⟩)] w' fun e w'' => e = .returned (.bool (g v)) ∧ Below w'.heap.size w' w'') :
    Calls Try.prog 53 #[.slice p l.length cap, .func (.func 37) #[] #[.pointer (some ⟨ub, 0, none⟩)]] w fun e w' => e = .returned (.int .i64 r) ∧ Below w.heap.size w w' := by
  have HF := Lib.hid hf
  have HT := Lib.hid ht
  have HR := Lib.hid hr
  clear hf ht hr
  go_enter Try.func53, Try.ntmps53
  go_wp2_with fail
  go_loopw [8] (fun i wr => ∃ k : Nat, i = .int .i64 k ∧ k ≤ l.length ∧ r = ixF g k (l.drop k) ∧ Below w.heap.size w wr) (fun i _ => l.length - (intOf i).toNat)
  case atStart => exact ⟨0, rfl, Nat.zero_le _, HR.out, Below.refl _ _⟩
  case round =>
    obtain ⟨k, rfl, hk, hrk, hb⟩ := hrel
    have HRK := Lib.hid hrk
    have HB := Lib.hid hb
    clear hrk hb
    by_cases hlt : k < l.length
    · have hu : l[k]? = some l[k] := List.getElem?_eq_getElem hlt
      have hd : l.drop k = l[k] :: l.drop (k + 1) := List.drop_eq_getElem_cons hlt
      generalize l[k] = u at hu hd
      obtain ⟨b, off, rfl, hc, hb64, hbl⟩ := (HT.out.below HB.out).at hu
      have HU := Lib.hid hu
      have HD := Lib.hid hd
      have H64 := Lib.hid hb64
      clear hu hd hb64
      obtain ⟨c0, c1, c2, c3, c4⟩ := hc
      cases hg : g u
      · have hcall := HF.out k u wr HU.out HB.out
        rw [hg] at hcall
        have HC := Lib.hid hcall
        have HG := Lib.hid hg
        clear hcall hg
        go_wp2_with fail
        refine HC.out.mono ?_
        rintro e w1 ⟨rfl, hb1⟩
        have HB1 := Lib.hid (HB.out.trans (hb1.mono HB.out.size))
        clear hb1
        go_wp2_with fail
        go_roundw
        case rel =>
          refine ⟨k + 1, by simp, hlt, ?_, HB1.out⟩
          rw [HRK.out, HD.out, ixF, HG.out]
          rfl
        case measure =>
          simp only [intOf]
          exact meas_lt hlt
      · have hcall := HF.out k u wr HU.out HB.out
        rw [hg] at hcall
        have hrk : r = k := by rw [HRK.out, HD.out, ixF, hg]; rfl
        have HC := Lib.hid hcall
        have HG := Lib.hid hrk
        clear hcall hg hrk
        go_wp2_with fail
        refine HC.out.mono ?_
        rintro e w1 ⟨rfl, hb1⟩
        go_wp2_with fail
        go_ret
        exact ⟨ret_int HG.out.symm, HB.out.trans (hb1.mono HB.out.size)⟩
    · have hrk : r = -1 := by rw [HRK.out, List.drop_eq_nil_of_le (by omega)]; rfl
      have HG := Lib.hid hrk
      clear hrk
      go_wp2_with fail
      go_ret
      exact ⟨ret_int HG.out.symm, HB.out⟩
theorem unit_any (ub : Nat) (p : Option Addr) (cap : Nat) (l : List Qn.Un) (g : Qn.Un → Bool) (w : World) (hn : l.length ≤ 1000) (ht : Tab w p l)
    (hf : ∀ (k : Nat) v w', l[k]? = some v → Below w.heap.size w w' → Calls Try.prog 37 #[UV v, .pointer (some ⟨ub, 0, none⟩)] w' fun e w'' => e = .returned (.bool (g v)) ∧ Below w'.heap.size w' w'') :
    Calls Try.prog 36 #[.slice p l.length cap, .func (.func 37) #[] #[.pointer (some ⟨ub, 0, none⟩)]] w fun e w' => e = .returned (.bool (l.any g)) ∧ Below w.heap.size w w' := by
  obtain ⟨r, hr⟩ : ∃ r, r = ixF g 0 l := ⟨_, rfl⟩
  have hcall := unit_index ub p cap l g r w hn ht hr hf
  have ha : l.any g = decide (0 ≤ r) := by rw [hr]; exact (ixF_any g l 0).symm
  rw [ha]
  have HC := Lib.hid hcall
  clear hcall hf ht hr ha
  go_enter Try.func36, Try.ntmps36
  go_wp2_with fail
  refine HC.out.mono ?_
  rintro e w1 ⟨rfl, hb1⟩
  go_wp2_with fail
  go_ret
  exact ⟨rfl, hb1⟩
set_option maxRecDepth 100000 in
set_option maxHeartbeats 1600000 in
theorem bad_index (ub : Nat) (p : Option Addr) (cap : Nat) (l : List Qn.Am) (g : Qn.Am → Bool) (r : Int) (w : World) (hn : l.length ≤ 1000) (ht : Amts w p l) (hr : r = ixF g 0 l)
    (hf : ∀ (k : Nat) v w', l[k]? = some v → Below w.heap.size w w' → Calls Try.prog 46 #[AV v, .pointer (some ⟨ub, 0, none⟩)] w' fun e w'' => e = .returned (.bool (g v)) ∧ Below w'.heap.size w' w'') :
    Calls Try.prog 47 #[.slice p l.length cap, .func (.func 46) #[] #[.pointer (some ⟨ub, 0, none⟩)]] w fun e w' => e = .returned (.int .i64 r) ∧ Below w.heap.size w w' := by
  have HF := Lib.hid hf
  have HT := Lib.hid ht
  have HR := Lib.hid hr
  clear hf ht hr
  go_enter Try.func47, Try.ntmps47
  go_wp2_with fail
  go_loopw [8] (fun i wr => ∃ k : Nat, i = .int .i64 k ∧ k ≤ l.length ∧ r = ixF g k (l.drop k) ∧ Below w.heap.size w wr) (fun i _ => l.length - (intOf i).toNat)
  case atStart => exact ⟨0, rfl, Nat.zero_le _, HR.out, Below.refl _ _⟩
  case round =>
    obtain ⟨k, rfl, hk, hrk, hb⟩ := hrel
    have HRK := Lib.hid hrk
    have HB := Lib.hid hb
    clear hrk hb
    by_cases hlt : k < l.length
    · have hu : l[k]? = some l[k] := List.getElem?_eq_getElem hlt
      have hd : l.drop k = l[k] :: l.drop (k + 1) := List.drop_eq_getElem_cons hlt
      generalize l[k] = u at hu hd
      obtain ⟨b, off, rfl, hc, hb64, hbl⟩ := (HT.out.below HB.out).at hu
      have HU := Lib.hid hu
      have HD := Lib.hid hd
      have H64 := Lib.hid hb64
      clear hu hd hb64
      obtain ⟨c0, c1, c2⟩ := hc
      cases hg : g u
      · have hcall := HF.out k u wr HU.out HB.out
        rw [hg] at hcall
        have HC := Lib.hid hcall
        have HG := Lib.hid hg
        clear hcall hg
        go_wp2_with fail
        refine HC.out.mono ?_
        rintro e w1 ⟨rfl, hb1⟩
        have HB1 := Lib.hid (HB.out.trans (hb1.mono HB.out.size))
        clear hb1
        go_wp2_with fail
        go_roundw
        case rel =>
          refine ⟨k + 1, by simp, hlt, ?_, HB1.out⟩
          rw [HRK.out, HD.out, ixF, HG.out]
          rfl
        case measure =>
          simp only [intOf]
          exact meas_lt hlt
      · have hcall := HF.out k u wr HU.out HB.out
        rw [hg] at hcall
        have hrk : r = k := by rw [HRK.out, HD.out, ixF, hg]; rfl
        have HC := Lib.hid hcall
        have HG := Lib.hid hrk
        clear hcall hg hrk
        go_wp2_with fail
        refine HC.out.mono ?_
        rintro e w1 ⟨rfl, hb1⟩
        go_wp2_with fail
        go_ret
        exact ⟨ret_int HG.out.symm, HB.out.trans (hb1.mono HB.out.size)⟩
    · have hrk : r = -1 := by rw [HRK.out, List.drop_eq_nil_of_le (by omega)]; rfl
      have HG := Lib.hid hrk
      clear hrk
      go_wp2_with fail
      go_ret
      exact ⟨ret_int HG.out.symm, HB.out⟩
theorem bad_any (ub : Nat) (p : Option Addr) (cap : Nat) (l : List Qn.Am) (g : Qn.Am → Bool) (w : World) (hn : l.length ≤ 1000) (ht : Amts w p l)
    (hf : ∀ (k : Nat) v w', l[k]? = some v → Below w.heap.size w w' → Calls Try.prog 46 #[AV v, .pointer (some ⟨ub, 0, none⟩)] w' fun e w'' => e = .returned (.bool (g v)) ∧ Below w'.heap.size w' w'') :
    Calls Try.prog 29 #[.slice p l.length cap, .func (.func 46) #[] #[.pointer (some ⟨ub, 0, none⟩)]] w fun e w' => e = .returned (.bool (l.any g)) ∧ Below w.heap.size w w' := by
  obtain ⟨r, hr⟩ : ∃ r, r = ixF g 0 l := ⟨_, rfl⟩
  have hcall := bad_index ub p cap l g r w hn ht hr hf
  have ha : l.any g = decide (0 ≤ r) := by rw [hr]; exact (ixF_any g l 0).symm
  rw [ha]
  have HC := Lib.hid hcall
  clear hcall hf ht hr ha
  go_enter Try.func29, Try.ntmps29
  go_wp2_with fail
  refine HC.out.mono ?_
  rintro e w1 ⟨rfl, hb1⟩
  go_wp2_with fail
  go_ret
  exact ⟨rfl, hb1⟩
set_option maxRecDepth 100000 in
set_option maxHeartbeats 1600000 in
theorem other_index (ub vb : Nat) (p : Option Addr) (cap : Nat) (l : List Qn.Am) (g : Qn.Am → Bool) (r : Int) (w : World) (hn : l.length ≤ 1000) (ht : Amts w p l) (hr : r = ixF g 0 l)
    (hf : ∀ (k : Nat) v w', l[k]? = some v → Below w.heap.size w w' → Calls Try.prog 30 #[AV v, .pointer (some ⟨ub, 0, none⟩), .pointer (some ⟨vb, 0, none⟩)] w' fun e w'' => e = .returned (.bool (g v)) ∧ Below w'.heap.size w' w'') :
    Calls Try.prog 47 #[.slice p l.length cap, .func (.func 30) #[] #[.pointer (some ⟨ub, 0, none⟩), .pointer (some ⟨vb, 0, none⟩)]] w fun e w' => e = .returned (.int .i64 r) ∧ Below w.heap.size w w' := by
  have HF := Lib.hid hf
  have HT := Lib.hid ht
  have HR := Lib.hid hr
  clear hf ht hr
  go_enter Try.func47, Try.ntmps47
  go_wp2_with fail
  go_loopw [8] (fun i wr => ∃ k : Nat, i = .int .i64 k ∧ k ≤ l.length ∧ r = ixF g k (l.drop k) ∧ Below w.heap.size w wr) (fun i _ => l.length - (intOf i).toNat)
  case atStart => exact ⟨0, rfl, Nat.zero_le _, HR.out, Below.refl _ _⟩
  case round =>
    obtain ⟨k, rfl, hk, hrk, hb⟩ := hrel
    have HRK := Lib.hid hrk
    have HB := Lib.hid hb
    clear hrk hb
    by_cases hlt : k < l.length
    · have hu : l[k]? = some l[k] := List.getElem?_eq_getElem hlt
      have hd : l.drop k = l[k] :: l.drop (k + 1) := List.drop_eq_getElem_cons hlt
      generalize l[k] = u at hu hd
      obtain ⟨b, off, rfl, hc, hb64, hbl⟩ := (HT.out.below HB.out).at hu
      have HU := Lib.hid hu
      have HD := Lib.hid hd
      have H64 := Lib.hid hb64
      clear hu hd hb64
      obtain ⟨c0, c1, c2⟩ := hc
      cases hg : g u
      · have hcall := HF.out k u wr HU.out HB.out
        rw [hg] at hcall
        have HC := Lib.hid hcall
        have HG := Lib.hid hg
        clear hcall hg
        go_wp2_with fail
        refine HC.out.mono ?_
        rintro e w1 ⟨rfl, hb1⟩
        have HB1 := Lib.hid (HB.out.trans (hb1.mono HB.out.size))
        clear hb1
        go_wp2_with fail
        go_roundw
        case rel =>
          refine ⟨k + 1, by simp, hlt, ?_, HB1.out⟩
          rw [HRK.out, HD.out, ixF, HG.out]
          rfl
        case measure =>
          simp only [intOf]
          exact meas_lt hlt
      · have hcall := HF.out k u wr HU.out HB.out
        rw [hg] at hcall
        have hrk : r = k := by rw [HRK.out, HD.out, ixF, hg]; rfl
        have HC := Lib.hid hcall
        have HG := Lib.hid hrk
        clear hcall hg hrk
        go_wp2_with fail
        refine HC.out.mono ?_
        rintro e w1 ⟨rfl, hb1⟩
        go_wp2_with fail
        go_ret
        exact ⟨ret_int HG.out.symm, HB.out.trans (hb1.mono HB.out.size)⟩
    · have hrk : r = -1 := by rw [HRK.out, List.drop_eq_nil_of_le (by omega)]; rfl
      have HG := Lib.hid hrk
      clear hrk
      go_wp2_with fail
      go_ret
      exact ⟨ret_int HG.out.symm, HB.out⟩
theorem other_any (ub vb : Nat) (p : Option Addr) (cap : Nat) (l : List Qn.Am) (g : Qn.Am → Bool) (w : World) (hn : l.length ≤ 1000) (ht : Amts w p l)
    (hf : ∀ (k : Nat) v w', l[k]? = some v → Below w.heap.size w w' → Calls Try.prog 30 #[AV v, .pointer (some ⟨ub, 0, none⟩), .pointer (some ⟨vb, 0, none⟩)] w' fun e w'' => e = .returned (.bool (g v)) ∧ Below w'.heap.size w' w'') :
    Calls Try.prog 29 #[.slice p l.length cap, .func (.func 30) #[] #[.pointer (some ⟨ub, 0, none⟩), .pointer (some ⟨vb, 0, none⟩)]] w fun e w' => e = .returned (.bool (l.any g)) ∧ Below w.heap.size w w' := by
  obtain ⟨r, hr⟩ : ∃ r, r = ixF g 0 l := ⟨_, rfl⟩
  have hcall := other_index ub vb p cap l g r w hn ht hr hf
  have ha : l.any g = decide (0 ≤ r) := by rw [hr]; exact (ixF_any g l 0).symm
  rw [ha]
  have HC := Lib.hid hcall
  clear hcall hf ht hr ha
  go_enter Try.func29, Try.ntmps29
  go_wp2_with fail
  refine HC.out.mono ?_
  rintro e w1 ⟨rfl, hb1⟩
  go_wp2_with fail
  go_ret
  exact ⟨rfl, hb1⟩
end Go.Proofs.Ytpdknjbhnelidaa

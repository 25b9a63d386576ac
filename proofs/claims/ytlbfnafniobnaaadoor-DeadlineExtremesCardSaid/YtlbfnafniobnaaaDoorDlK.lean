/- The events that are valid or known; the map of rules. -/
import Derived.Test.YtlbfnafniobnaaaDoorDlJ
namespace Go.Proofs.YtlbfnafniobnaaaDoor
open Go.RowKit Go.Shelf

theorem Hols.at {w : World} {p : Option Addr} {l : List Int} (h : Hols w p l) {j : Nat} {v : Int} (hv : l[j]? = some v) : ∃ b off, p = some ⟨b, off, none⟩ ∧ w.cell? ⟨b, off + j, none⟩ = some (.int .i64 v) ∧ b < w.heap.size := by
  rcases h with rfl | ⟨b, off, hp, h⟩
  · simp at hv
  · have hj := (List.getElem?_eq_some_iff.1 hv).1
    have q := h j hj
    rw [List.getD_eq_getElem?_getD, hv] at q
    exact ⟨b, off, hp, q, World.block_lt_of_cell? w _ q⟩
/-- the index of the first element for which g holds, from k on; -1 -/
def ixF {α : Type} (g : α → Bool) : Nat → List α → Int
  | _, [] => -1
  | k, x :: l => if g x then (k : Int) else ixF g (k + 1) l
theorem ixF_any {α : Type} (g : α → Bool) : ∀ (l : List α) (k : Nat), decide (0 ≤ ixF g k l) = l.any g
  | [], _ => rfl
  | x :: l, k => by
    rw [ixF, List.any_cons]
    cases hg : g x
    · simp only [Bool.false_eq_true, if_false, Bool.false_or]
      exact ixF_any g l (k + 1)
    · simp
theorem meas_lt {n k : Nat} (h : k < n) : n - ((k : Int) + 1).toNat < n - (k : Int).toNat := by omega
set_option maxRecDepth 100000 in
set_option maxHeartbeats 1600000 in
theorem evs_index (p : Option Addr) (cap : Nat) (l : List Wh) (g : Wh → Bool) (r : Int) (w : World) (hn : l.length ≤ 1000) (ht : EvAt w p l) (hr : r = ixF g 0 l)
    (hf : ∀ (k : Nat) v w', l[k]? = some v → Below w.heap.size w w' → Calls Tryd.prog 38 #[.agg #[.bool v.known, .int .i64 v.day, .int .i64 v.minute]] w' fun e w'' => e = .returned (.bool (g v)) ∧ Below w'.heap.size w' w'') :
    Calls Tryd.prog 61 #[.slice p l.length cap, .func (.func 38) #[] #[]] w fun e w' => e = .returned (.int .i64 r) ∧ Below w.heap.size w w' := by
  have HF := Lib.hid hf
  have HT := Lib.hid ht
  have HR := Lib.hid hr
  clear hf ht hr
  go_enter Tryd.func61, Tryd.ntmps61
  go_wp2_with fail
  go_loopw [8] (fun i wr => ∃ k : Nat, i = .int .i64 k ∧ k ≤ l.length ∧ r = ixF g k (l.drop k) ∧ Below w.heap.size w wr) (fun i _ => l.length - (intOf i).toNat)
  case atStart => exact ⟨0, rfl, Nat.zero_le _, HR.out, Below.refl _ _⟩
  case round =>
    obtain ⟨k, rfl, hk, hrk, hb⟩ := hrel
    have HRK := Lib.hid hrk
    have HB := Lib.hid hb
    clear hrk hb
    by_cases hlt : k < l.length
    · have hu : l[k]? = some l[k] := List.getElem?_eq_getElem hlt
      have hd : l.drop k = l[k] :: l.drop (k + 1) := List.drop_eq_getElem_cons hlt
      generalize l[k] = u at hu hd
      obtain ⟨b, off, rfl, hc, hbl⟩ := (HT.out.below HB.out).at hu
      have HU := Lib.hid hu
      have HD := Lib.hid hd
      clear hu hd
      obtain ⟨c0, c1, c2⟩ := hc
      cases hg : g u
      · have hcall := HF.out k u wr HU.out HB.out
        rw [hg] at hcall
        have HC := Lib.hid hcall
        have HG := Lib.hid hg
        clear hcall hg
        go_wp2_with fail
        refine HC.out.mono ?_
        rintro e w1 ⟨rfl, hb1⟩
        have HB1 := Lib.hid (HB.out.trans (hb1.mono HB.out.size))
        clear hb1
        go_wp2_with fail
        go_roundw
        case rel =>
          refine ⟨k + 1, by simp, hlt, ?_, HB1.out⟩
          rw [HRK.out, HD.out, ixF, HG.out]
          rfl
        case measure =>
          simp only [intOf]
          exact meas_lt hlt
      · have hcall := HF.out k u wr HU.out HB.out
        rw [hg] at hcall
        have hrk : r = k := by rw [HRK.out, HD.out, ixF, hg]; rfl
        have HC := Lib.hid hcall
        have HG := Lib.hid hrk
        clear hcall hg hrk
        go_wp2_with fail
        refine HC.out.mono ?_
        rintro e w1 ⟨rfl, hb1⟩
        go_wp2_with fail
        go_ret
        exact ⟨ret_int HG.out.symm, HB.out.trans (hb1.mono HB.out.size)⟩
    · have hrk : r = -1 := by rw [HRK.out, List.drop_eq_nil_of_le (by omega)]; rfl
      have HG := Lib.hid hrk
      clear hrk
      go_wp2_with fail
      go_ret
      exact ⟨ret_int HG.out.symm, HB.out⟩
theorem evs_any (p : Option Addr) (cap : Nat) (l : List Wh) (g : Wh → Bool) (w : World) (hn : l.length ≤ 1000) (ht : EvAt w p l)
    (hf : ∀ (k : Nat) v w', l[k]? = some v → Below w.heap.size w w' → Calls Tryd.prog 38 #[.agg #[.bool v.known, .int .i64 v.day, .int .i64 v.minute]] w' fun e w'' => e = .returned (.bool (g v)) ∧ Below w'.heap.size w' w'') :
    Calls Tryd.prog 37 #[.slice p l.length cap, .func (.func 38) #[] #[]] w fun e w' => e = .returned (.bool (l.any g)) ∧ Below w.heap.size w w' := by
  obtain ⟨r, hr⟩ : ∃ r, r = ixF g 0 l := ⟨_, rfl⟩
  have hcall := evs_index  p cap l g r w hn ht hr hf
  have ha : l.any g = decide (0 ≤ r) := by rw [hr]; exact (ixF_any g l 0).symm
  rw [ha]
  have HC := Lib.hid hcall
  clear hcall hf ht hr ha
  go_enter Tryd.func37, Tryd.ntmps37
  go_wp2_with fail
  refine HC.out.mono ?_
  rintro e w1 ⟨rfl, hb1⟩
  go_wp2_with fail
  go_ret
  exact ⟨rfl, hb1⟩
set_option maxRecDepth 100000 in
set_option maxHeartbeats 1600000 in
theorem kno_index (eb : Nat) (p : Option Addr) (cap : Nat) (l : List Int) (g : Int → Bool) (r : Int) (w : World) (hn : l.length ≤ 1000) (ht : Hols w p l) (hr : r = ixF g 0 l)
    (hf : ∀ (k : Nat) v w', l[k]? = some v → Below w.heap.size w w' → Calls Tryd.prog 23 #[.int .i64 v, .pointer (some ⟨eb, 0, none⟩)] w' fun e w'' => e = .returned (.bool (g v)) ∧ Below w'.heap.size w' w'') :
    Calls Tryd.prog 39 #[.slice p l.length cap, .func (.func 23) #[] #[.pointer (some ⟨eb, 0, none⟩)]] w fun e w' => e = .returned (.int .i64 r) ∧ Below w.heap.size w w' := by
  have HF := Lib.hid hf
  have HT := Lib.hid ht
  have HR := Lib.hid hr
  clear hf ht hr
  go_enter Tryd.func39, Tryd.ntmps39
  go_wp2_with fail
  go_loopw [8] (fun i wr => ∃ k : Nat, i = .int .i64 k ∧ k ≤ l.length ∧ r = ixF g k (l.drop k) ∧ Below w.heap.size w wr) (fun i _ => l.length - (intOf i).toNat)
  case atStart => exact ⟨0, rfl, Nat.zero_le _, HR.out, Below.refl _ _⟩
  case round =>
    obtain ⟨k, rfl, hk, hrk, hb⟩ := hrel
    have HRK := Lib.hid hrk
    have HB := Lib.hid hb
    clear hrk hb
    by_cases hlt : k < l.length
    · have hu : l[k]? = some l[k] := List.getElem?_eq_getElem hlt
      have hd : l.drop k = l[k] :: l.drop (k + 1) := List.drop_eq_getElem_cons hlt
      generalize l[k] = u at hu hd
      obtain ⟨b, off, rfl, hc, hbl⟩ := (HT.out.below HB.out).at hu
      have HU := Lib.hid hu
      have HD := Lib.hid hd
      clear hu hd
      have c0 := hc
      cases hg : g u
      · have hcall := HF.out k u wr HU.out HB.out
        rw [hg] at hcall
        have HC := Lib.hid hcall
        have HG := Lib.hid hg
        clear hcall hg
        go_wp2_with fail
        refine HC.out.mono ?_
        rintro e w1 ⟨rfl, hb1⟩
        have HB1 := Lib.hid (HB.out.trans (hb1.mono HB.out.size))
        clear hb1
        go_wp2_with fail
        go_roundw
        case rel =>
          refine ⟨k + 1, by simp, hlt, ?_, HB1.out⟩
          rw [HRK.out, HD.out, ixF, HG.out]
          rfl
        case measure =>
          simp only [intOf]
          exact meas_lt hlt
      · have hcall := HF.out k u wr HU.out HB.out
        rw [hg] at hcall
        have hrk : r = k := by rw [HRK.out, HD.out, ixF, hg]; rfl
        have HC := Lib.hid hcall
        have HG := Lib.hid hrk
        clear hcall hg hrk
        go_wp2_with fail
        refine HC.out.mono ?_
        rintro e w1 ⟨rfl, hb1⟩
        go_wp2_with fail
        go_ret
        exact ⟨ret_int HG.out.symm, HB.out.trans (hb1.mono HB.out.size)⟩
    · have hrk : r = -1 := by rw [HRK.out, List.drop_eq_nil_of_le (by omega)]; rfl
      have HG := Lib.hid hrk
      clear hrk
      go_wp2_with fail
      go_ret
      exact ⟨ret_int HG.out.symm, HB.out⟩
theorem kno_any (eb : Nat) (p : Option Addr) (cap : Nat) (l : List Int) (g : Int → Bool) (w : World) (hn : l.length ≤ 1000) (ht : Hols w p l)
    (hf : ∀ (k : Nat) v w', l[k]? = some v → Below w.heap.size w w' → Calls Tryd.prog 23 #[.int .i64 v, .pointer (some ⟨eb, 0, none⟩)] w' fun e w'' => e = .returned (.bool (g v)) ∧ Below w'.heap.size w' w'') :
    Calls Tryd.prog 22 #[.slice p l.length cap, .func (.func 23) #[] #[.pointer (some ⟨eb, 0, none⟩)]] w fun e w' => e = .returned (.bool (l.any g)) ∧ Below w.heap.size w w' := by
  obtain ⟨r, hr⟩ : ∃ r, r = ixF g 0 l := ⟨_, rfl⟩
  have hcall := kno_index eb p cap l g r w hn ht hr hf
  have ha : l.any g = decide (0 ≤ r) := by rw [hr]; exact (ixF_any g l 0).symm
  rw [ha]
  have HC := Lib.hid hcall
  clear hcall hf ht hr ha
  go_enter Tryd.func22, Tryd.ntmps22
  go_wp2_with fail
  refine HC.out.mono ?_
  rintro e w1 ⟨rfl, hb1⟩
  go_wp2_with fail
  go_ret
  exact ⟨rfl, hb1⟩
def badW (e : Wh) : Bool := e.known && (!(decide (0 ≤ e.day) && decide (e.day ≤ 73048)) || !(decide (0 ≤ e.minute) && decide (e.minute ≤ 1439)))
theorem bad_calls (e : Wh) (w : World) : Calls Tryd.prog 38 #[.agg #[.bool e.known, .int .i64 e.day, .int .i64 e.minute]] w fun r w' => r = .returned (.bool (badW e)) ∧ Below w.heap.size w w' := by
  unfold badW
  cases hk : e.known with
  | false =>
    go_enter Tryd.func38, Tryd.ntmps38
    go_wp2_with fail
    go_ret
    exact ⟨rfl, (by repeat (first | exact Below.refl _ _ | assumption | refine below_drewN ?_ _ | refine Below.setCell ?_ (by first | (simp; done) | (simp; omega)) _ | refine Below.alloc ?_ (by first | (simp; done) | (simp; omega) | omega) _ | refine Below.drew ?_ | refine Below.trans ?_ (Below.mono (by assumption) (by first | (simp; done) | (simp; omega) | omega))))⟩
  | true =>
    cases h1 : (decide (0 ≤ e.day) && decide (e.day ≤ 73048)) with
    | false =>
      have H1 := Lib.hid h1
      clear h1
      go_enter Tryd.func38, Tryd.ntmps38
      go_wp2_with fail
      refine (within_calls _ _ _ _).mono ?_
      rintro r w' ⟨rfl, rfl⟩
      rw [H1.out]
      go_wp2_with fail
      go_ret
      exact ⟨rfl, (by repeat (first | exact Below.refl _ _ | assumption | refine below_drewN ?_ _ | refine Below.setCell ?_ (by first | (simp; done) | (simp; omega)) _ | refine Below.alloc ?_ (by first | (simp; done) | (simp; omega) | omega) _ | refine Below.drew ?_ | refine Below.trans ?_ (Below.mono (by assumption) (by first | (simp; done) | (simp; omega) | omega))))⟩
    | true =>
      have H1 := Lib.hid h1
      obtain ⟨r2, h2⟩ : ∃ r2, (decide (0 ≤ e.minute) && decide (e.minute ≤ 1439)) = r2 := ⟨_, rfl⟩
      have H2 := Lib.hid h2
      clear h1 h2
      go_enter Tryd.func38, Tryd.ntmps38
      go_wp2_with fail
      refine (within_calls _ _ _ _).mono ?_
      rintro r w' ⟨rfl, rfl⟩
      rw [H1.out]
      go_wp2_with fail
      refine (within_calls _ _ _ _).mono ?_
      rintro r w' ⟨rfl, rfl⟩
      rw [H2.out]
      go_wp2_with fail
      go_ret
      exact ⟨by rw [← H2.out]; simp, (by repeat (first | exact Below.refl _ _ | assumption | refine below_drewN ?_ _ | refine Below.setCell ?_ (by first | (simp; done) | (simp; omega)) _ | refine Below.alloc ?_ (by first | (simp; done) | (simp; omega) | omega) _ | refine Below.drew ?_ | refine Below.trans ?_ (Below.mono (by assumption) (by first | (simp; done) | (simp; omega) | omega))))⟩
def goodE (l : List Wh) : Bool := !(l.any badW)
theorem areValid_calls (q : Option Addr) (cap : Nat) (l : List Wh) (w : World) (hn : l.length ≤ 1000) (ht : EvAt w q l) : Calls Tryd.prog 21 #[.slice q l.length cap] w fun r w' => r = .returned (.bool (goodE l)) ∧ Below w.heap.size w w' := by
  unfold goodE
  have HC := Lib.hid (evs_any q cap l badW w hn ht (fun k v w' _ _ => bad_calls v w'))
  clear ht
  go_enter Tryd.func21, Tryd.ntmps21
  go_wp2_with fail
  refine HC.out.mono ?_
  rintro r w' ⟨rfl, hb⟩
  go_wp2_with fail
  go_ret
  exact ⟨rfl, hb⟩
def knownAt (l : List Wh) (i : Int) : Bool := match l[i.toNat]? with
  | some e => e.known
  | none => false
theorem unknown_calls (q : Option Addr) (cap eb : Nat) (l : List Wh) (i : Int) (w : World) (ht : EvAt w q l) (hb : w.heap[eb]? = some (.cells #[.slice q l.length cap] 29 (0, 0))) (h0 : 0 ≤ i) (h1 : i < l.length) :
    Calls Tryd.prog 23 #[.int .i64 i, .pointer (some ⟨eb, 0, none⟩)] w fun r w' => r = .returned (.bool (!(knownAt l i))) ∧ Below w.heap.size w w' := by
  obtain ⟨j, rfl⟩ : ∃ j : Nat, i = j := ⟨i.toNat, by omega⟩
  have hj : j < l.length := by omega
  obtain ⟨e, he⟩ : ∃ e, l[j]? = some e := ⟨_, List.getElem?_eq_getElem hj⟩
  have hk : knownAt l (j : Int) = e.known := by
    unfold knownAt
    rw [Int.toNat_natCast, he]
  rw [hk]
  obtain ⟨b, off, rfl, ⟨c0, c1, c2⟩, hbl⟩ := ht.at he
  obtain ⟨q0, _⟩ := box_cell hb
  have hel := (Array.getElem?_eq_some_iff.1 hb).1
  clear ht hb he hk
  go_enter Tryd.func23, Tryd.ntmps23
  go_wp2_with fail
  go_ret
  exact ⟨rfl, (by repeat (first | exact Below.refl _ _ | assumption | refine below_drewN ?_ _ | refine Below.setCell ?_ (by first | (simp; done) | (simp; omega)) _ | refine Below.alloc ?_ (by first | (simp; done) | (simp; omega) | omega) _ | refine Below.drew ?_ | refine Below.trans ?_ (Below.mono (by assumption) (by first | (simp; done) | (simp; omega) | omega))))⟩
theorem known_calls (p q : Option Addr) (cap capq eb : Nat) (is : List Int) (l : List Wh) (w : World) (hn : is.length ≤ 1000) (hi : Hols w p is) (ht : EvAt w q l) (hb : w.heap[eb]? = some (.cells #[.slice q l.length capq] 29 (0, 0))) (hr : ∀ i ∈ is, 0 ≤ i ∧ i < l.length) :
    Calls Tryd.prog 22 #[.slice p is.length cap, .func (.func 23) #[] #[.pointer (some ⟨eb, 0, none⟩)]] w fun r w' => r = .returned (.bool (is.any fun i => !(knownAt l i))) ∧ Below w.heap.size w w' :=
  kno_any eb p cap is _ w hn hi (fun _ i w' hk hbw => unknown_calls q capq eb l i w' (ht.below hbw) ((hbw.block _ (Array.getElem?_eq_some_iff.1 hb).1).trans hb) (hr i (List.mem_of_getElem? hk)).1 (hr i (List.mem_of_getElem? hk)).2)
def ruleL (cb eb : Nat) : List (Int × Value) := [(1, .func (.func 40) #[] #[]), (2, .func (.func 41) #[] #[.pointer (some ⟨eb, 0, none⟩)]), (3, .func (.func 42) #[] #[.pointer (some ⟨eb, 0, none⟩)]), (4, .func (.func 43) #[] #[.pointer (some ⟨cb, 0, none⟩)]), (5, .func (.func 45) #[] #[]), (6, .func (.func 47) #[] #[.pointer (some ⟨cb, 0, none⟩)]), (7, .func (.func 49) #[] #[]), (8, .func (.func 51) #[] #[])]
set_option maxRecDepth 100000 in
theorem rules_calls (c : Cal) (q : Option Addr) (n cap : Nat) (w : World) : Calls Tryd.prog 24 #[.agg #[.bool c.b0, .bool c.b1, .bool c.b2, .bool c.b3, .bool c.b4, .bool c.b5, .bool c.b6, .slice c.p c.hs.length c.cap], .slice q n cap] w fun e w' => e = .returned (.map (some (w.heap.size + 2))) ∧ w'.heap[w.heap.size + 2]? = some (mapO (ruleL w.heap.size (w.heap.size + 1))) ∧
      w'.heap[w.heap.size]? = some (.cells #[.bool c.b0, .bool c.b1, .bool c.b2, .bool c.b3, .bool c.b4, .bool c.b5, .bool c.b6, .slice c.p c.hs.length c.cap] 28 (0, 0)) ∧ w'.heap[w.heap.size + 1]? = some (.cells #[.slice q n cap] 29 (0, 0)) ∧ Below w.heap.size w w' := by
  have hmm := @run_makeMap Tryd.prog
  have ht := Tryd.underlying57
  have hk := Tryd.underlying3
  obtain ⟨W, hW⟩ : ∃ W, W = (w.alloc (.cells #[.bool c.b0, .bool c.b1, .bool c.b2, .bool c.b3, .bool c.b4, .bool c.b5, .bool c.b6, .slice c.p c.hs.length c.cap] 28)).alloc (.cells #[.slice q n cap] 29) := ⟨_, rfl⟩
  have zW : W.heap.size = w.heap.size + 2 := by rw [hW]; simp
  have g0 : W.heap[w.heap.size]? = some (.cells #[.bool c.b0, .bool c.b1, .bool c.b2, .bool c.b3, .bool c.b4, .bool c.b5, .bool c.b6, .slice c.p c.hs.length c.cap] 28 (0, 0)) := by rw [hW]; repeat (first | exact heap_new (by simp) | refine (Below.heap_alloc _ _ _ (by first | (simp; done) | (simp; omega))).trans ?_)
  have g1 : W.heap[w.heap.size + 1]? = some (.cells #[.slice q n cap] 29 (0, 0)) := by rw [hW]; repeat (first | exact heap_new (by simp) | refine (Below.heap_alloc _ _ _ (by first | (simp; done) | (simp; omega))).trans ?_)
  have bW : Below w.heap.size w W := by rw [hW]; exact (by repeat (first | exact Below.refl _ _ | assumption | refine below_drewN ?_ _ | refine Below.setCell ?_ (by first | (simp; done) | (simp; omega)) _ | refine Below.alloc ?_ (by first | (simp; done) | (simp; omega) | omega) _ | refine Below.drew ?_ | refine Below.trans ?_ (Below.mono (by assumption) (by first | (simp; done) | (simp; omega) | omega))))
  go_enter Tryd.func24, Tryd.ntmps24
  go_wp2_with fail
  rw [← hW]
  clear hW
  obtain ⟨W0, hW0⟩ : ∃ W0, W0 = W.alloc (.map #[] 0) := ⟨_, rfl⟩
  have h0 : W0.heap[W.heap.size]? = some (mapO []) := by rw [hW0]; exact World.alloc_heap_new W _
  have b0 : Below W.heap.size W W0 := by rw [hW0]; exact (Below.refl _ W).alloc (Nat.le_refl _) _
  rw [← hW0]
  clear hW0 hmm
  obtain ⟨W1, h1, b1, r1⟩ := upd_new ht hk h0 b0 (Nat.le_refl _) 1 (.func (.func 40) #[] #[]) (by simp)
  try rw [zW] at r1
  try rw [zW]
  rw [r1]
  go_wp2_with fail
  clear r1 h0 b0
  obtain ⟨W2, h2, b2, r2⟩ := upd_new ht hk h1 b1 (Nat.le_refl _) 2 (.func (.func 41) #[] #[.pointer (some ⟨w.heap.size + 1, 0, none⟩)]) (by simp)
  try rw [zW] at r2
  try rw [zW]
  rw [r2]
  go_wp2_with fail
  clear r2 h1 b1
  obtain ⟨W3, h3, b3, r3⟩ := upd_new ht hk h2 b2 (Nat.le_refl _) 3 (.func (.func 42) #[] #[.pointer (some ⟨w.heap.size + 1, 0, none⟩)]) (by simp)
  try rw [zW] at r3
  try rw [zW]
  rw [r3]
  go_wp2_with fail
  clear r3 h2 b2
  obtain ⟨W4, h4, b4, r4⟩ := upd_new ht hk h3 b3 (Nat.le_refl _) 4 (.func (.func 43) #[] #[.pointer (some ⟨w.heap.size, 0, none⟩)]) (by simp)
  try rw [zW] at r4
  try rw [zW]
  rw [r4]
  go_wp2_with fail
  clear r4 h3 b3
  obtain ⟨W5, h5, b5, r5⟩ := upd_new ht hk h4 b4 (Nat.le_refl _) 5 (.func (.func 45) #[] #[]) (by simp)
  try rw [zW] at r5
  try rw [zW]
  rw [r5]
  go_wp2_with fail
  clear r5 h4 b4
  obtain ⟨W6, h6, b6, r6⟩ := upd_new ht hk h5 b5 (Nat.le_refl _) 6 (.func (.func 47) #[] #[.pointer (some ⟨w.heap.size, 0, none⟩)]) (by simp)
  try rw [zW] at r6
  try rw [zW]
  rw [r6]
  go_wp2_with fail
  clear r6 h5 b5
  obtain ⟨W7, h7, b7, r7⟩ := upd_new ht hk h6 b6 (Nat.le_refl _) 7 (.func (.func 49) #[] #[]) (by simp)
  try rw [zW] at r7
  try rw [zW]
  rw [r7]
  go_wp2_with fail
  clear r7 h6 b6
  obtain ⟨W8, h8, b8, r8⟩ := upd_new ht hk h7 b7 (Nat.le_refl _) 8 (.func (.func 51) #[] #[]) (by simp)
  try rw [zW] at r8
  try rw [zW]
  rw [r8]
  go_wp2_with fail
  clear r8 h7 b7
  go_ret
  rw [zW] at h8
  exact ⟨rfl, h8, (b8.block _ (by omega)).trans g0, (b8.block _ (by omega)).trans g1, bW.trans (b8.mono (by omega))⟩
end Go.Proofs.YtlbfnafniobnaaaDoor

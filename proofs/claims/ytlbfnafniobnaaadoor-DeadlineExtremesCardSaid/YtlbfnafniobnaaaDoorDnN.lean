/- The number of a term's nodes, as the reference counts them; whether a term and its events are few; the order of two lists. -/
import Derived.Test.YtlbfnafniobnaaaDoorDnO
namespace Go.Proofs.YtlbfnafniobnaaaDoor
open Go.RowKit Go.Shelf

mutual
/-- the number of nodes, as far as it is one of 64 bits -/
def cntT : Dl.T → Int
  | .node _ _ _ _ _ _ l => cntL l 1
def cntL : List Dl.T → Int → Int
  | [], n => n
  | k :: l, n => cntL l (wrap64 (n + cntT k))
end
theorem cntT_eq (t : Dl.T) : cntT t = cntL t.kids 1 := by
  cases t
  rw [cntT]
  rfl
set_option maxRecDepth 100000 in
set_option maxHeartbeats 1600000 in
theorem nodes_cnt (t : Dl.T) : LenOK t → ∀ w : World, TAt w t → Calls Tryd.prog 19 #[.agg #[.int .i64 t.kd, .int .i64 t.n, .int .i64 t.ev, .bool t.bz, .slice t.p t.kids.length t.cap]] w fun e w' => e = .returned (.int .i64 (cntT t)) ∧ Below w.heap.size w w' := by
  induction t using Dl.T.ind with
  | h t ih =>
    cases t with
    | node kd nn ev bz p cap kids =>
    intro hlen w ht
    obtain ⟨hll, hlk⟩ := len_iff.1 hlen
    simp only [Dl.T.kids] at hll hlk ih
    obtain ⟨r, hr⟩ : ∃ r, cntL kids 1 = r := ⟨_, rfl⟩
    rw [cntT, hr]
    have hkk : ∀ k ∈ kids, ∀ w : World, TAt w k → Calls Tryd.prog 19 #[.agg #[.int .i64 k.kd, .int .i64 k.n, .int .i64 k.ev, .bool k.bz, .slice k.p k.kids.length k.cap]] w fun e w' => e = .returned (.int .i64 (cntT k)) ∧ Below w.heap.size w w' := fun k hk w hw => ih k hk (hlk k hk) w hw
    have HK := Lib.hid hkk
    have HT := Lib.hid ht
    have HR := Lib.hid hr
    clear ih hlk ht hr hkk hlen
    simp only [Dl.T.kd, Dl.T.n, Dl.T.ev, Dl.T.bz, Dl.T.p, Dl.T.cap, Dl.T.kids]
    obtain ⟨V, hV⟩ : ∃ V, V = w.alloc (.cells #[.int .i64 kd, .int .i64 nn, .int .i64 ev, .bool bz, .slice p kids.length cap] 24) := ⟨_, rfl⟩
    have bV : Below w.heap.size w V := by rw [hV]; exact (Below.refl _ w).alloc (Nat.le_refl _) _
    have hcV : V.heap[w.heap.size]? = some (.cells #[.int .i64 kd, .int .i64 nn, .int .i64 ev, .bool bz, .slice p kids.length cap] 24 (0, 0)) := by rw [hV]; exact World.alloc_heap_new w _
    have HM := Lib.hid hll
    clear hll
    go_enter Tryd.func19, Tryd.ntmps19
    go_wp2_with fail
    rw [← hV]
    clear hV
    have HBV := Lib.hid bV
    clear bV
    go_loopw [3, 4] (fun n i wr => ∃ (j : Nat) (x : Int), i = .int .i64 j ∧ n = .int .i64 x ∧ j ≤ kids.length ∧ cntL (kids.drop j) x = r ∧ Below w.heap.size w wr ∧ wr.heap[w.heap.size]? = some (.cells #[.int .i64 kd, .int .i64 nn, .int .i64 ev, .bool bz, .slice p kids.length cap] 24 (0, 0))) (fun _ i _ => kids.length - (intOf i).toNat)
    case atStart => exact ⟨0, 1, rfl, rfl, Nat.zero_le _, HR.out, HBV.out, hcV⟩
    case round =>
      obtain ⟨j, x, rfl, rfl, hj, hrj, hbw, hcw⟩ := hrel
      have q4 : wr.cell? ⟨w.heap.size, 4, none⟩ = some (.slice p kids.length cap) := by simp [World.cell?, hcw]
      have HRJ := Lib.hid hrj
      have HBW := Lib.hid hbw
      have HCW := Lib.hid hcw
      clear hrj hbw hcw
      have hzw := HBW.out.size
      by_cases hlt : j < kids.length
      · have hg : kids[j]? = some kids[j] := List.getElem?_eq_getElem hlt
        have hmem : kids[j] ∈ kids := List.getElem_mem hlt
        have hd : kids.drop j = kids[j] :: kids.drop (j + 1) := List.drop_eq_getElem_cons hlt
        generalize kids[j] = k at hg hmem hd
        have htw := HT.out.below HBW.out
        obtain ⟨hka, hks⟩ := tin_iff.1 htw
        obtain ⟨b, off, hp, hbl, c0, c1, c2, c3, c4⟩ := hka j k hg
        simp only [Dl.T.p] at hp
        subst hp
        have htk : TAt wr k := hks k hmem
        have hrk := HRJ.out
        rw [hd, cntL] at hrk
        have HRK := Lib.hid hrk
        have HTK := Lib.hid htk
        have hi0 : (0 : Int) ≤ (j : Int) := by omega
        have hi1 : (j : Int) < (kids.length : Int) := by omega
        have hmx : kids.length ≤ 9223372036854775807 := HM.out
        clear hd hrk htk htw hka hks hg HRJ
        go_wp2_with fail
        refine (HK.out k hmem _ HTK.out).mono ?_
        rintro e w1 ⟨rfl, hb1⟩
        have hc1 : w1.heap[w.heap.size]? = some (.cells #[.int .i64 kd, .int .i64 nn, .int .i64 ev, .bool bz, .slice (some ⟨b, off, none⟩) kids.length cap] 24 (0, 0)) := (hb1.block _ (Array.getElem?_eq_some_iff.1 HCW.out).1).trans HCW.out
        have HC1 := Lib.hid hc1
        have hb2 : Below w.heap.size w w1 := HBW.out.trans (hb1.mono HBW.out.size)
        have HB2 := Lib.hid hb2
        clear hb1 hb2 hc1
        go_wp2_with fail
        go_roundw
        case rel => exact ⟨j + 1, wrap64 (x + cntT k), by first | rfl | (simp; done) | (simp; omega), rfl, hlt, HRK.out, HB2.out, HC1.out⟩
        · exact meas_lt hlt
      · obtain rfl : j = kids.length := by omega
        have hrk := HRJ.out
        rw [List.drop_length, cntL] at hrk
        subst hrk
        go_wp2_with fail
        go_ret
        exact ⟨rfl, HBW.out⟩
def smallB (t : Dl.T) (l : List Wh) : Bool := decide (cntT t ≤ 60) && decide ((l.length : Int) ≤ 40)
theorem small_len {t : Dl.T} {l : List Wh} (h : smallB t l = true) : l.length ≤ 40 := by
  simp [smallB] at h
  omega
theorem small_any (t : Dl.T) (q : Option Addr) (l : List Wh) (cap : Nat) (w : World) (hn : LenOK t) (ht : TAt w t) : Calls Tryd.prog 10 #[.agg #[.int .i64 t.kd, .int .i64 t.n, .int .i64 t.ev, .bool t.bz, .slice t.p t.kids.length t.cap], .slice q l.length cap] w fun e w' => e = .returned (.bool (smallB t l)) ∧ Below w.heap.size w w' := by
  unfold smallB
  have HN := Lib.hid hn
  have HT := Lib.hid ht
  clear hn ht
  by_cases h1 : cntT t ≤ 60
  · go_enter Tryd.func10, Tryd.ntmps10
    go_wp2_with fail
    refine (nodes_cnt t HN.out _ (HT.out.below (by repeat (first | exact Below.refl _ _ | assumption | refine below_drewN ?_ _ | refine Below.setCell ?_ (by first | (simp; done) | (simp; omega)) _ | refine Below.alloc ?_ (by first | (simp; done) | (simp; omega) | omega) _ | refine Below.drew ?_ | refine Below.trans ?_ (Below.mono (by assumption) (by first | (simp; done) | (simp; omega) | omega)))))).mono ?_
    rintro e w1 ⟨rfl, hb1⟩
    go_wp2_with fail
    go_ret
    exact ⟨by rw [decide_eq_true h1]; rfl, (by repeat (first | exact Below.refl _ _ | assumption | refine below_drewN ?_ _ | refine Below.setCell ?_ (by first | (simp; done) | (simp; omega)) _ | refine Below.alloc ?_ (by first | (simp; done) | (simp; omega) | omega) _ | refine Below.drew ?_ | refine Below.trans ?_ (Below.mono (by assumption) (by first | (simp; done) | (simp; omega) | omega))))⟩
  · go_enter Tryd.func10, Tryd.ntmps10
    go_wp2_with fail
    refine (nodes_cnt t HN.out _ (HT.out.below (by repeat (first | exact Below.refl _ _ | assumption | refine below_drewN ?_ _ | refine Below.setCell ?_ (by first | (simp; done) | (simp; omega)) _ | refine Below.alloc ?_ (by first | (simp; done) | (simp; omega) | omega) _ | refine Below.drew ?_ | refine Below.trans ?_ (Below.mono (by assumption) (by first | (simp; done) | (simp; omega) | omega)))))).mono ?_
    rintro e w1 ⟨rfl, hb1⟩
    go_wp2_with fail
    go_ret
    exact ⟨by rw [decide_eq_false (show ¬ cntT t ≤ 60 by omega)]; rfl, (by repeat (first | exact Below.refl _ _ | assumption | refine below_drewN ?_ _ | refine Below.setCell ?_ (by first | (simp; done) | (simp; omega)) _ | refine Below.alloc ?_ (by first | (simp; done) | (simp; omega) | omega) _ | refine Below.drew ?_ | refine Below.trans ?_ (Below.mono (by assumption) (by first | (simp; done) | (simp; omega) | omega))))⟩
theorem ord_rules (x y : Wh) : ordB x y = (!(x.known != y.known) && !(x.known && (decide (y.day < x.day) || (decide (x.day = y.day) && decide (y.minute < x.minute))))) := by
  unfold ordB
  cases x.known <;> cases y.known <;> simp
  rcases Int.lt_trichotomy x.day y.day with h | h | h
  · simp [h, Int.le_of_lt h, Int.ne_of_lt h]
  · by_cases g : y.minute < x.minute
    · simp [h, g, Int.not_le.2 g]
    · simp [h, g, Int.not_lt.1 g]
  · simp [h, Int.not_lt.2 (Int.le_of_lt h), (Int.ne_of_lt h).symm]
end Go.Proofs.YtlbfnafniobnaaaDoor

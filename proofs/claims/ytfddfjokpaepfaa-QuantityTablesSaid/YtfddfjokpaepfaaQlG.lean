/- QuantitySums: the walk of the law behind its first test. -/
import Derived.Test.YtfddfjokpaepfaaQlF
namespace Go.Proofs.Ytfddfjokpaepfaa
open Go.RowKit

theorem sum_64 {us : List Qn.Un} {l : List Qn.Am} {tt b e : Int} {r : Qn.R} (h : Qn.sumS us l tt = (b, r, e)) : B64 r.1 ∧ (e = 0 → Qn.RO r) ∧ (e ≠ 0 → b = 0 ∧ r = (0, 0)) := by
  by_cases he : e = 0
  · subst he
    obtain ⟨h1, h2, h3, h4, _, h6⟩ := Qn.sum_ok h
    have hr := (Qn.sumC_val (Qn.fac_un h1 h3) _ _ _ _ Qn.nil_ok (Qn.vf_ok h1 h2) h6).1
    exact ⟨ok64 hr, fun _ => hr, fun k => absurd rfl k⟩
  · have : b = 0 ∧ r = (0, 0) := by
      unfold Qn.sumS Qn.amt at h
      split at h
      · split at h
        · split at h
          · simp only [Prod.mk.injEq] at h; exact absurd h.2.2.symm he
          · simp only [Prod.mk.injEq] at h; exact ⟨h.1.symm, h.2.1.symm⟩
        · simp only [Prod.mk.injEq] at h; exact ⟨h.1.symm, h.2.1.symm⟩
      · simp only [Prod.mk.injEq] at h; exact ⟨h.1.symm, h.2.1.symm⟩
    obtain ⟨rfl, rfl⟩ := this
    exact ⟨⟨by decide, by decide⟩, fun k => absurd k he, fun _ => ⟨rfl, rfl⟩⟩
theorem rev_step {l : List Qn.Am} {k : Nat} {a : Qn.Am} (h : l[k]? = some a) : (l.drop k).reverse = (l.drop (k + 1)).reverse ++ [a] := by
  obtain ⟨hk, rfl⟩ := List.getElem?_eq_some_iff.1 h
  rw [List.drop_eq_getElem_cons hk, List.reverse_cons]
set_option maxRecDepth 100000 in
set_option maxHeartbeats 3200000 in
theorem sums_go (p : Option Addr) (cap : Nat) (us : List Qn.Un) (q r : Option Addr) (capl capm : Nat) (l m : List Qn.Am) (tt : Int) (al : List Qn.Am) (ab bb cb1 e f g : Int) (ar br cr : Qn.R) (w : World) (ht : Tab w p us) (hcap : us.length ≤ cap) (hl : Amts w q l) (hm : Amts w r m) (hs : smallB us l.length = true) (h1 : l.length ≤ 30) (h2 : m.length ≤ 30) (hq0 : q = none → capl = 0) (hr0 : r = none → capm = 0) (hal : al = l ++ m) (hsa : Qn.sumS us l tt = (ab, ar, e)) (hsb : Qn.sumS us m tt = (bb, br, f)) (hsc : Qn.sumS us al tt = (cb1, cr, g)) :
    Calls Try.prog 8 #[.slice p us.length cap, .slice q l.length capl, .slice r m.length capm, .int .i64 tt] w fun e w' => e = .returned (.bool true) ∧ Below w.heap.size w w' := by
  have HTW := Lib.hid ht
  have HLW := Lib.hid hl
  have HMW := Lib.hid hm
  have HT0 := Lib.hid ht
  clear ht
  have HL0 := Lib.hid hl
  have HM0 := Lib.hid hm
  clear hl hm
  have HAL := Lib.hid hal
  have H64 := Lib.hid (show ∀ a ∈ al, B64 a.2.1 by rw [hal]; intro a ha; exact (List.mem_append.1 ha).elim (HLW.out.1 a) (HMW.out.1 a))
  have hall : al.length ≤ 60 := by rw [hal, List.length_append]; omega
  have HSA := Lib.hid hsa
  have HSB := Lib.hid hsb
  have HSC := Lib.hid hsc
  have HR1 := Lib.hid (sum_64 hsa).1
  have HR2 := Lib.hid (sum_64 hsb).1
  have HFST := Lib.hid (fun (k : g = 0) => show e = 0 by
    obtain ⟨s, hs⟩ := Qn.sum_first (l := l) (m := m) (by rw [← hal, hsc, k])
    rw [hsa] at hs
    simp only [Prod.mk.injEq] at hs
    exact hs.2.2)
  have HSPL := Lib.hid (fun (k1 : e = 0) (k2 : f = 0) (k3 : g = 0) => show Qn.sumS us [(ab, ar), (bb, br)] tt = (cb1, cr, 0) from Qn.sum_split (l := l) (m := m) (by rw [hsa, k1]) (by rw [hsb, k2]) (by rw [← hal, hsc, k3]))
  clear hal hsa hsb hsc
  have HS := Lib.hid hs
  clear hs
  go_enter Try.func8, Try.ntmps8
  go_wp2_with fail
  refine (head_any _).mono ?_
  rintro e w1 ⟨rfl, hb1⟩
  have hz1 := hb1.size
  (try simp at hz1)
  have bb1 : Below w.heap.size w w1 := (by repeat (first | exact Below.refl _ _ | assumption | refine below_drewN ?_ _ | refine Below.setCell ?_ (by first | (simp; done) | (simp; omega)) _ | refine Below.alloc ?_ (by first | (simp; done) | (simp; omega) | omega) _ | refine Below.drew ?_ | refine Below.trans ?_ (Below.mono (by assumption) (by first | (simp; done) | (simp; omega) | omega))))
  have be1 : Below w.heap.size w w1 := bb1
  have HT1 := Lib.hid (HT0.out.below bb1)
  have HL1 := Lib.hid (HL0.out.below bb1)
  have HM1 := Lib.hid (HM0.out.below bb1)
  have BE1 := Lib.hid be1
  clear be1 bb1 hb1 HT0 HL0 HM0
  go_wp2_with fail
  refine (small_any p q cap l.length capl us true _ (HT1.out.below (by repeat (first | exact Below.refl _ _ | assumption | refine below_drewN ?_ _ | refine Below.setCell ?_ (by first | (simp; done) | (simp; omega)) _ | refine Below.alloc ?_ (by first | (simp; done) | (simp; omega) | omega) _ | refine Below.drew ?_ | refine Below.trans ?_ (Below.mono (by assumption) (by first | (simp; done) | (simp; omega) | omega))))) HS.out).mono ?_
  rintro e w2 ⟨rfl, hb2⟩
  have hz2 := hb2.size
  (try simp at hz2)
  have bb2 : Below w1.heap.size w1 w2 := (by repeat (first | exact Below.refl _ _ | assumption | refine below_drewN ?_ _ | refine Below.setCell ?_ (by first | (simp; done) | (simp; omega)) _ | refine Below.alloc ?_ (by first | (simp; done) | (simp; omega) | omega) _ | refine Below.drew ?_ | refine Below.trans ?_ (Below.mono (by assumption) (by first | (simp; done) | (simp; omega) | omega))))
  have be2 : Below w.heap.size w w2 := BE1.out.trans (bb2.mono BE1.out.size)
  have HT2 := Lib.hid (HT1.out.below bb2)
  have HL2 := Lib.hid (HL1.out.below bb2)
  have HM2 := Lib.hid (HM1.out.below bb2)
  have BE2 := Lib.hid be2
  clear be2 bb2 hb2 BE1 HT1 HL1 HM1
  go_upto_region 4 with fail
  obtain ⟨i0, hi, hy0, hy1, hy2⟩ := info_parts info_amount
  have HI := Lib.hid hi
  have HY0 := Lib.hid hy0
  have HY1 := Lib.hid hy1
  have HY2 := Lib.hid hy2
  clear hi hy0 hy1 hy2
  go_cut [10] (fun s wx => OwnA wx w.heap.size s (l ++ m) ∧ Below w.heap.size w wx)
  case first =>
    have hbz := BE2.out.size
    have HL9 := Lib.hid (show Amts (w2.alloc (.cells #[] 33)) q l from HL2.out.below ((Below.refl _ _).alloc (Nat.le_refl _) _))
    have HM9 := Lib.hid (show Amts (w2.alloc (.cells #[] 33)) r m from HM2.out.below ((Below.refl _ _).alloc (Nat.le_refl _) _))
    have HB9 := Lib.hid (show Below w.heap.size w (w2.alloc (.cells #[] 33)) from BE2.out.alloc hbz _)
    have HO9 := Lib.hid (show (w2.alloc (.cells #[] 33)).ownsRow w.heap.size 33 3 (.slice (some ⟨w2.heap.size, 0, none⟩) 0 0) 0 [] from World.ownsRow_lit w2 #[] 0 hbz (by decide) rfl)
    cases q with
    | none =>
      cases r with
      | none =>
        obtain rfl := HL9.out.none_nil
        obtain rfl := hq0 rfl
        obtain rfl := HM9.out.none_nil
        obtain rfl := hr0 rfl
        go_wp2_with (first | (at_builtin; refine wpList_append_own_none rfl (.tmp 39) (.tmp 40) 23 rfl w.heap.size 33 i0 3 Try.underlying23 HI.out _ _ _ rfl HO9.out rfl ?_) | (at_builtin; refine wpList_append_own_none rfl (.tmp 41) (.tmp 42) 23 rfl w.heap.size 33 i0 3 Try.underlying23 HI.out _ _ _ rfl HO9.out rfl ?_))
        go_meet
        exact ⟨HO9.out, HB9.out⟩
      | some x =>
        obtain rfl := HL9.out.none_nil
        obtain rfl := hq0 rfl
        go_wp2_with (first | (at_builtin; refine wpList_append_own_none rfl (.tmp 39) (.tmp 40) 23 rfl w.heap.size 33 i0 3 Try.underlying23 HI.out _ _ _ rfl HO9.out rfl ?_) | (at_builtin; refine wpList_append_own_at _ rfl (.tmp 41) (.tmp 42) 23 rfl w.heap.size 33 i0 (.agg #[.int .i64 0, .int .i64 0, .int .i64 0]) 3 24 Try.underlying23 HI.out HY0.out HY1.out HY2.out rfl (by decide) _ _ _ rfl HO9.out x m.length capm (cellsA m) rfl (cellsA_len m) HM9.out.news (cellsA_one m) (by simp [maxLen]; omega) (by omega) HB9.out.size ?_))
        intro v9 w9 hown hgrow _ _
        go_wp2_with fail
        go_meet
        exact ⟨ownA_app (l := []) rfl rfl (by simpa [cellsA] using hown), HB9.out.grown hgrow HB9.out.size (fun b hb => by simp [Value.ownBlock] at hb; omega)⟩
    | some y =>
      cases r with
      | none =>
        obtain rfl := HM9.out.none_nil
        obtain rfl := hr0 rfl
        go_wp2_with (at_builtin; refine wpList_append_own_at _ rfl (.tmp 39) (.tmp 40) 23 rfl w.heap.size 33 i0 (.agg #[.int .i64 0, .int .i64 0, .int .i64 0]) 3 24 Try.underlying23 HI.out HY0.out HY1.out HY2.out rfl (by decide) _ _ _ rfl HO9.out y l.length capl (cellsA l) rfl (cellsA_len l) HL9.out.news (cellsA_one l) (by simp [maxLen]; omega) (by omega) HB9.out.size ?_)
        intro v8 w8 hown hgrow _ hat
        have hb8 : Below w.heap.size w w8 := HB9.out.grown hgrow HB9.out.size (fun b hb => by simp [Value.ownBlock] at hb; omega)
        have hb98 : Below w2.heap.size w2 w8 := Below.grown (((Below.refl _ _).alloc (Nat.le_refl _) _) : Below w2.heap.size w2 (w2.alloc (.cells #[] 33))) hgrow (by simp) (fun b hb => by simp [Value.ownBlock] at hb; omega)
        have ho8 : OwnA w8 w.heap.size v8 l := ownA_app (l := []) rfl rfl (by simpa [cellsA] using hown)
        have HB8 := Lib.hid hb8
        have HB98 := Lib.hid hb98
        have HO8 := Lib.hid (show w8.ownsRow w.heap.size 33 3 v8 l.length (cellsA l) from ho8)
        clear hown hgrow hat hb8 hb98 ho8
        go_wp2_with (at_builtin; refine wpList_append_own_none rfl (.tmp 41) (.tmp 42) 23 rfl w.heap.size 33 i0 3 Try.underlying23 HI.out _ _ _ rfl HO8.out rfl ?_)
        go_meet
        exact ⟨by rw [List.append_nil]; exact HO8.out, HB8.out⟩
      | some x =>
        go_wp2_with (at_builtin; refine wpList_append_own_at _ rfl (.tmp 39) (.tmp 40) 23 rfl w.heap.size 33 i0 (.agg #[.int .i64 0, .int .i64 0, .int .i64 0]) 3 24 Try.underlying23 HI.out HY0.out HY1.out HY2.out rfl (by decide) _ _ _ rfl HO9.out y l.length capl (cellsA l) rfl (cellsA_len l) HL9.out.news (cellsA_one l) (by simp [maxLen]; omega) (by omega) HB9.out.size ?_)
        intro v8 w8 hown hgrow _ hat
        have hb8 : Below w.heap.size w w8 := HB9.out.grown hgrow HB9.out.size (fun b hb => by simp [Value.ownBlock] at hb; omega)
        have hb98 : Below w2.heap.size w2 w8 := Below.grown (((Below.refl _ _).alloc (Nat.le_refl _) _) : Below w2.heap.size w2 (w2.alloc (.cells #[] 33))) hgrow (by simp) (fun b hb => by simp [Value.ownBlock] at hb; omega)
        have ho8 : OwnA w8 w.heap.size v8 l := ownA_app (l := []) rfl rfl (by simpa [cellsA] using hown)
        have HB8 := Lib.hid hb8
        have HB98 := Lib.hid hb98
        have HO8 := Lib.hid (show w8.ownsRow w.heap.size 33 3 v8 l.length (cellsA l) from ho8)
        clear hown hgrow hat hb8 hb98 ho8
        have HM8 := Lib.hid (HM2.out.below HB98.out)
        go_wp2_with (at_builtin; refine wpList_append_own_at _ rfl (.tmp 41) (.tmp 42) 23 rfl w.heap.size 33 i0 (.agg #[.int .i64 0, .int .i64 0, .int .i64 0]) 3 24 Try.underlying23 HI.out HY0.out HY1.out HY2.out rfl (by decide) _ _ _ rfl HO8.out x m.length capm (cellsA m) rfl (cellsA_len m) HM8.out.news (cellsA_one m) (by simp [maxLen]; omega) (by omega) HB8.out.size ?_)
        intro v9 w9 hown hgrow _ _
        go_wp2_with fail
        go_meet
        exact ⟨ownA_app rfl rfl hown, HB8.out.grown hgrow HB8.out.size (fun b hb => (HO8.out.lt b hb).1)⟩
  case rest =>
    obtain ⟨ho, hbx⟩ := hcut
    rw [← HAL.out] at ho
    obtain ⟨qa, ca, ha, hamts, hblk⟩ := ho.amts H64.out
    obtain ⟨wa, hwa⟩ : ∃ W, W = wc := ⟨_, rfl⟩
    subst hwa
    subst ha
    have HBX := Lib.hid hbx
    have HAA := Lib.hid hamts
    clear ho hbx hamts hblk
    go_wp2_with fail
    go_loopw [11, 12] (fun vb i wr => ∃ (j : Nat) (z : Int) (b : Value), vb = b ∧ i = .int .i64 z ∧ z = (j : Int) - 1 ∧ j ≤ al.length ∧ OwnA wr wa.heap.size b (al.drop j).reverse ∧ Below wa.heap.size wa wr) (fun _ i _ => (intOf i + 1).toNat)
    case atStart => exact ⟨al.length, _, _, rfl, rfl, rfl, Nat.le_refl _, by rw [List.drop_length]; exact World.ownsRow_nil _ _ _ _, Below.refl _ _⟩
    case round =>
      obtain ⟨j, z, _, rfl, rfl, hz, hj, hob, hbw⟩ := hrel
      have HOB := Lib.hid hob
      have HBW := Lib.hid hbw
      clear hob hbw
      cases j with
      | succ k =>
        obtain rfl : z = (k : Int) := by omega
        clear hz
        have hlt : k < al.length := by omega
        have hu : al[k]? = some al[k] := List.getElem?_eq_getElem hlt
        generalize al[k] = a at hu
        obtain ⟨ba, offa, rfl, hca, _, hbla⟩ := (HAA.out.below HBW.out).at hu
        obtain ⟨a0, a1, a2⟩ := hca
        have hi0 : (0 : Int) ≤ (k : Int) := by omega
        have hi1 : (k : Int) < (al.length : Int) := by omega
        have HR := Lib.hid (rev_step hu)
        have hrl : (al.drop (k + 1)).reverse.length ≤ 60 := by rw [List.length_reverse, List.length_drop]; omega
        have HOB2 := Lib.hid (show wr.ownsRow wa.heap.size 33 3 _ (al.drop (k + 1)).reverse.length (cellsA (al.drop (k + 1)).reverse) from HOB.out)
        obtain ⟨rv, hrv⟩ : ∃ rv, rv = (al.drop (k + 1)).reverse := ⟨_, rfl⟩
        have HRV := Lib.hid hrv
        rw [← hrv] at hrl
        have HOB3 := Lib.hid (show wr.ownsRow wa.heap.size 33 3 _ rv.length (cellsA rv) by rw [hrv]; exact HOB2.out)
        clear hu hrv HOB HOB2
        go_wp2_with (at_builtin; refine wpList_append_own_at _ rfl (.tmp 51) (.tmp 56) 23 rfl wa.heap.size 33 i0 (.agg #[.int .i64 0, .int .i64 0, .int .i64 0]) 3 24 Try.underlying23 HI.out HY0.out HY1.out HY2.out rfl (by decide) _ _ _ rfl (HOB3.out.alloc _) ⟨wr.heap.size, 0, none⟩ 1 1 [.int .i64 a.1, .int .i64 a.2.1, .int .i64 a.2.2] rfl rfl (cell_three_new _ _ _ _ _) (by simp [Value.oneCell']) (by simp [maxLen]; omega) (by omega) (by have := HBW.out.size; simp; omega) ?_)
        intro v' w6 hown hgrow _ _
        have hb6 : Below wa.heap.size wa w6 := (HBW.out.alloc HBW.out.size _).grown hgrow (by have := HBW.out.size; simp; omega) (fun b hb => (HOB3.out.lt b hb).1)
        have ho6 : OwnA w6 wa.heap.size v' (al.drop k).reverse := by
          rw [HR.out, ← HRV.out]
          exact ownA_app rfl rfl hown
        have HO6 := Lib.hid ho6
        have HB6 := Lib.hid hb6
        clear hown hgrow hb6 ho6
        go_wp2_with fail
        go_roundw
        case rel => exact ⟨k, _, _, rfl, rfl, rfl, by omega, HO6.out, HB6.out⟩
        case measure =>
          simp only [intOf]
          omega
      | zero =>
        obtain rfl : z = -1 := by omega
        clear hz
        rw [List.drop_zero] at HOB
        obtain ⟨qb, cbk, hb, hbk, _⟩ := HOB.out.amts (fun a ha => H64.out a (List.mem_reverse.1 ha))
        subst hb
        obtain ⟨bk, hbr⟩ : ∃ bk, bk = al.reverse := ⟨_, rfl⟩
        rw [← hbr] at hbk
        have hbl : bk.length ≤ 60 := by rw [hbr, List.length_reverse]; omega
        have HBWR := Lib.hid (HBX.out.trans (HBW.out.mono HBX.out.size))
        have HT0 := Lib.hid (HTW.out.below HBWR.out)
        have HL0 := Lib.hid (HLW.out.below HBWR.out)
        have HM0 := Lib.hid (HMW.out.below HBWR.out)
        have HA0 := Lib.hid (HAA.out.below HBW.out)
        have HB0 := Lib.hid hbk
        simp only [← hbr]
        obtain ⟨db, dr, h, hd⟩ : ∃ x1 x2 x3, Qn.sumS us bk tt = (x1, x2, x3) := ⟨_, _, _, rfl⟩
        have HSD := Lib.hid hd
        have HREV := Lib.hid (fun (h1 : g = 0) (h2 : h = 0) => show cb1 = db ∧ cr = dr from Qn.sum_reversed (by have q := HSC.out; rw [h1] at q; exact q) (by rw [← hbr, hd, h2]))
        clear hbk hbr hd HOB HBW HAA HBX
        by_cases he0 : e = 0
        rotate_left
        · have hg0 : g ≠ 0 := fun k => he0 (HFST.out k)
          have heb : (e != 0) = true := bne_iff_ne.2 he0
          have hec : (e == 0) = false := beq_eq_false_iff_ne.2 he0
          clear he0
          have hgb : (g != 0) = true := bne_iff_ne.2 hg0
          have hgc : (g == 0) = false := beq_eq_false_iff_ne.2 hg0
          clear hg0
          go_wp2_with fail
          refine (sum_any p q cap capl us l tt _ (HT0.out.below (by repeat (first | exact Below.refl _ _ | assumption | refine below_drewN ?_ _ | refine Below.setCell ?_ (by first | (simp; done) | (simp; omega)) _ | refine Below.alloc ?_ (by first | (simp; done) | (simp; omega) | omega) _ | refine Below.drew ?_ | refine Below.trans ?_ (Below.mono (by assumption) (by first | (simp; done) | (simp; omega) | omega))))) hcap (HL0.out.below (by repeat (first | exact Below.refl _ _ | assumption | refine below_drewN ?_ _ | refine Below.setCell ?_ (by first | (simp; done) | (simp; omega)) _ | refine Below.alloc ?_ (by first | (simp; done) | (simp; omega) | omega) _ | refine Below.drew ?_ | refine Below.trans ?_ (Below.mono (by assumption) (by first | (simp; done) | (simp; omega) | omega))))) (by omega)).mono ?_
          rintro e w1 ⟨rfl, hb1⟩
          rw [HSA.out]
          simp only [RA]
          have hz1 := hb1.size
          (try simp at hz1)
          have bb1 : Below wr.heap.size wr w1 := (by repeat (first | exact Below.refl _ _ | assumption | refine below_drewN ?_ _ | refine Below.setCell ?_ (by first | (simp; done) | (simp; omega)) _ | refine Below.alloc ?_ (by first | (simp; done) | (simp; omega) | omega) _ | refine Below.drew ?_ | refine Below.trans ?_ (Below.mono (by assumption) (by first | (simp; done) | (simp; omega) | omega))))
          have be1 : Below wr.heap.size wr w1 := bb1
          have HT1 := Lib.hid (HT0.out.below bb1)
          have HL1 := Lib.hid (HL0.out.below bb1)
          have HM1 := Lib.hid (HM0.out.below bb1)
          have HA1 := Lib.hid (HA0.out.below bb1)
          have HB1 := Lib.hid (HB0.out.below bb1)
          have BE1 := Lib.hid be1
          clear be1 bb1 hb1 HT0 HL0 HM0 HA0 HB0
          go_wp2_with fail
          refine (sum_any p r cap capm us m tt _ (HT1.out.below (by repeat (first | exact Below.refl _ _ | assumption | refine below_drewN ?_ _ | refine Below.setCell ?_ (by first | (simp; done) | (simp; omega)) _ | refine Below.alloc ?_ (by first | (simp; done) | (simp; omega) | omega) _ | refine Below.drew ?_ | refine Below.trans ?_ (Below.mono (by assumption) (by first | (simp; done) | (simp; omega) | omega))))) hcap (HM1.out.below (by repeat (first | exact Below.refl _ _ | assumption | refine below_drewN ?_ _ | refine Below.setCell ?_ (by first | (simp; done) | (simp; omega)) _ | refine Below.alloc ?_ (by first | (simp; done) | (simp; omega) | omega) _ | refine Below.drew ?_ | refine Below.trans ?_ (Below.mono (by assumption) (by first | (simp; done) | (simp; omega) | omega))))) (by omega)).mono ?_
          rintro e w2 ⟨rfl, hb2⟩
          rw [HSB.out]
          simp only [RA]
          have hz2 := hb2.size
          (try simp at hz2)
          have bb2 : Below w1.heap.size w1 w2 := (by repeat (first | exact Below.refl _ _ | assumption | refine below_drewN ?_ _ | refine Below.setCell ?_ (by first | (simp; done) | (simp; omega)) _ | refine Below.alloc ?_ (by first | (simp; done) | (simp; omega) | omega) _ | refine Below.drew ?_ | refine Below.trans ?_ (Below.mono (by assumption) (by first | (simp; done) | (simp; omega) | omega))))
          have be2 : Below wr.heap.size wr w2 := BE1.out.trans (bb2.mono BE1.out.size)
          have c2_a_0 : w2.cell? ⟨w1.heap.size, 0, none⟩ = some (.int .i64 ab) := cell_keep hb2 (by go_simp)
          have c2_a_1 : w2.cell? ⟨w1.heap.size, 1, none⟩ = some (.int .i64 ar.1) := cell_keep hb2 (by go_simp)
          have c2_a_2 : w2.cell? ⟨w1.heap.size, 2, none⟩ = some (.int .i64 ar.2) := cell_keep hb2 (by go_simp)
          have l2_a : w1.heap.size < w2.heap.size := by omega
          have m2_a : w1.heap.size < w2.heap.size + 1 := by omega
          have HT2 := Lib.hid (HT1.out.below bb2)
          have HL2 := Lib.hid (HL1.out.below bb2)
          have HM2 := Lib.hid (HM1.out.below bb2)
          have HA2 := Lib.hid (HA1.out.below bb2)
          have HB2 := Lib.hid (HB1.out.below bb2)
          have BE2 := Lib.hid be2
          clear be2 bb2 hb2 BE1 HT1 HL1 HM1 HA1 HB1
          go_wp2_with fail
          refine (sum_any p qa cap ca us al tt _ (HT2.out.below (by repeat (first | exact Below.refl _ _ | assumption | refine below_drewN ?_ _ | refine Below.setCell ?_ (by first | (simp; done) | (simp; omega)) _ | refine Below.alloc ?_ (by first | (simp; done) | (simp; omega) | omega) _ | refine Below.drew ?_ | refine Below.trans ?_ (Below.mono (by assumption) (by first | (simp; done) | (simp; omega) | omega))))) hcap (HA2.out.below (by repeat (first | exact Below.refl _ _ | assumption | refine below_drewN ?_ _ | refine Below.setCell ?_ (by first | (simp; done) | (simp; omega)) _ | refine Below.alloc ?_ (by first | (simp; done) | (simp; omega) | omega) _ | refine Below.drew ?_ | refine Below.trans ?_ (Below.mono (by assumption) (by first | (simp; done) | (simp; omega) | omega))))) (by omega)).mono ?_
          rintro e w3 ⟨rfl, hb3⟩
          rw [HSC.out]
          simp only [RA]
          have hz3 := hb3.size
          (try simp at hz3)
          have bb3 : Below w2.heap.size w2 w3 := (by repeat (first | exact Below.refl _ _ | assumption | refine below_drewN ?_ _ | refine Below.setCell ?_ (by first | (simp; done) | (simp; omega)) _ | refine Below.alloc ?_ (by first | (simp; done) | (simp; omega) | omega) _ | refine Below.drew ?_ | refine Below.trans ?_ (Below.mono (by assumption) (by first | (simp; done) | (simp; omega) | omega))))
          have be3 : Below wr.heap.size wr w3 := BE2.out.trans (bb3.mono BE2.out.size)
          have c3_a_0 : w3.cell? ⟨w1.heap.size, 0, none⟩ = some (.int .i64 ab) := cell_keep bb3 c2_a_0
          have c3_a_1 : w3.cell? ⟨w1.heap.size, 1, none⟩ = some (.int .i64 ar.1) := cell_keep bb3 c2_a_1
          have c3_a_2 : w3.cell? ⟨w1.heap.size, 2, none⟩ = some (.int .i64 ar.2) := cell_keep bb3 c2_a_2
          have l3_a : w1.heap.size < w3.heap.size := by omega
          have m3_a : w1.heap.size < w3.heap.size + 1 := by omega
          have c3_b_0 : w3.cell? ⟨w2.heap.size, 0, none⟩ = some (.int .i64 bb) := cell_keep hb3 (by go_simp)
          have c3_b_1 : w3.cell? ⟨w2.heap.size, 1, none⟩ = some (.int .i64 br.1) := cell_keep hb3 (by go_simp)
          have c3_b_2 : w3.cell? ⟨w2.heap.size, 2, none⟩ = some (.int .i64 br.2) := cell_keep hb3 (by go_simp)
          have l3_b : w2.heap.size < w3.heap.size := by omega
          have m3_b : w2.heap.size < w3.heap.size + 1 := by omega
          have HT3 := Lib.hid (HT2.out.below bb3)
          have HL3 := Lib.hid (HL2.out.below bb3)
          have HM3 := Lib.hid (HM2.out.below bb3)
          have HA3 := Lib.hid (HA2.out.below bb3)
          have HB3 := Lib.hid (HB2.out.below bb3)
          have BE3 := Lib.hid be3
          clear be3 bb3 hb3 BE2 c2_a_0 c2_a_1 c2_a_2 l2_a m2_a HT2 HL2 HM2 HA2 HB2
          go_wp2_with fail
          refine (sum_any p qb cap cbk us bk tt _ (HT3.out.below (by repeat (first | exact Below.refl _ _ | assumption | refine below_drewN ?_ _ | refine Below.setCell ?_ (by first | (simp; done) | (simp; omega)) _ | refine Below.alloc ?_ (by first | (simp; done) | (simp; omega) | omega) _ | refine Below.drew ?_ | refine Below.trans ?_ (Below.mono (by assumption) (by first | (simp; done) | (simp; omega) | omega))))) hcap (HB3.out.below (by repeat (first | exact Below.refl _ _ | assumption | refine below_drewN ?_ _ | refine Below.setCell ?_ (by first | (simp; done) | (simp; omega)) _ | refine Below.alloc ?_ (by first | (simp; done) | (simp; omega) | omega) _ | refine Below.drew ?_ | refine Below.trans ?_ (Below.mono (by assumption) (by first | (simp; done) | (simp; omega) | omega))))) (by omega)).mono ?_
          rintro e w4 ⟨rfl, hb4⟩
          rw [HSD.out]
          simp only [RA]
          have hz4 := hb4.size
          (try simp at hz4)
          have bb4 : Below w3.heap.size w3 w4 := (by repeat (first | exact Below.refl _ _ | assumption | refine below_drewN ?_ _ | refine Below.setCell ?_ (by first | (simp; done) | (simp; omega)) _ | refine Below.alloc ?_ (by first | (simp; done) | (simp; omega) | omega) _ | refine Below.drew ?_ | refine Below.trans ?_ (Below.mono (by assumption) (by first | (simp; done) | (simp; omega) | omega))))
          have be4 : Below wr.heap.size wr w4 := BE3.out.trans (bb4.mono BE3.out.size)
          have c4_a_0 : w4.cell? ⟨w1.heap.size, 0, none⟩ = some (.int .i64 ab) := cell_keep bb4 c3_a_0
          have c4_a_1 : w4.cell? ⟨w1.heap.size, 1, none⟩ = some (.int .i64 ar.1) := cell_keep bb4 c3_a_1
          have c4_a_2 : w4.cell? ⟨w1.heap.size, 2, none⟩ = some (.int .i64 ar.2) := cell_keep bb4 c3_a_2
          have l4_a : w1.heap.size < w4.heap.size := by omega
          have m4_a : w1.heap.size < w4.heap.size + 1 := by omega
          have c4_b_0 : w4.cell? ⟨w2.heap.size, 0, none⟩ = some (.int .i64 bb) := cell_keep bb4 c3_b_0
          have c4_b_1 : w4.cell? ⟨w2.heap.size, 1, none⟩ = some (.int .i64 br.1) := cell_keep bb4 c3_b_1
          have c4_b_2 : w4.cell? ⟨w2.heap.size, 2, none⟩ = some (.int .i64 br.2) := cell_keep bb4 c3_b_2
          have l4_b : w2.heap.size < w4.heap.size := by omega
          have m4_b : w2.heap.size < w4.heap.size + 1 := by omega
          have c4_c_0 : w4.cell? ⟨w3.heap.size, 0, none⟩ = some (.int .i64 cb1) := cell_keep hb4 (by go_simp)
          have c4_c_1 : w4.cell? ⟨w3.heap.size, 1, none⟩ = some (.int .i64 cr.1) := cell_keep hb4 (by go_simp)
          have c4_c_2 : w4.cell? ⟨w3.heap.size, 2, none⟩ = some (.int .i64 cr.2) := cell_keep hb4 (by go_simp)
          have l4_c : w3.heap.size < w4.heap.size := by omega
          have m4_c : w3.heap.size < w4.heap.size + 1 := by omega
          have HT4 := Lib.hid (HT3.out.below bb4)
          have HL4 := Lib.hid (HL3.out.below bb4)
          have HM4 := Lib.hid (HM3.out.below bb4)
          have HA4 := Lib.hid (HA3.out.below bb4)
          have HB4 := Lib.hid (HB3.out.below bb4)
          have BE4 := Lib.hid be4
          clear be4 bb4 hb4 BE3 c3_a_0 c3_a_1 c3_a_2 l3_a m3_a c3_b_0 c3_b_1 c3_b_2 l3_b m3_b HT3 HL3 HM3 HA3 HB3
          go_wp2_with fail
          go_ret
          exact ⟨rfl, HBWR.out.trans ((show Below wr.heap.size wr _ from (by have q := BE4.out; repeat (first | exact q | refine Below.setCell ?_ (by first | (simp; done) | omega | (simp; omega)) _ | refine Below.alloc ?_ (by first | (simp; done) | omega | (simp; omega)) _ | refine below_drewN ?_ _ | refine Below.drew ?_))).mono HBWR.out.size)⟩
        subst he0
        by_cases hg0 : g = 0
        rotate_left
        · by_cases hf0 : f = 0
          · subst hf0
            have hgb : (g != 0) = true := bne_iff_ne.2 hg0
            have hgc : (g == 0) = false := beq_eq_false_iff_ne.2 hg0
            clear hg0
            go_wp2_with fail
            refine (sum_any p q cap capl us l tt _ (HT0.out.below (by repeat (first | exact Below.refl _ _ | assumption | refine below_drewN ?_ _ | refine Below.setCell ?_ (by first | (simp; done) | (simp; omega)) _ | refine Below.alloc ?_ (by first | (simp; done) | (simp; omega) | omega) _ | refine Below.drew ?_ | refine Below.trans ?_ (Below.mono (by assumption) (by first | (simp; done) | (simp; omega) | omega))))) hcap (HL0.out.below (by repeat (first | exact Below.refl _ _ | assumption | refine below_drewN ?_ _ | refine Below.setCell ?_ (by first | (simp; done) | (simp; omega)) _ | refine Below.alloc ?_ (by first | (simp; done) | (simp; omega) | omega) _ | refine Below.drew ?_ | refine Below.trans ?_ (Below.mono (by assumption) (by first | (simp; done) | (simp; omega) | omega))))) (by omega)).mono ?_
            rintro e w1 ⟨rfl, hb1⟩
            rw [HSA.out]
            simp only [RA]
            have hz1 := hb1.size
            (try simp at hz1)
            have bb1 : Below wr.heap.size wr w1 := (by repeat (first | exact Below.refl _ _ | assumption | refine below_drewN ?_ _ | refine Below.setCell ?_ (by first | (simp; done) | (simp; omega)) _ | refine Below.alloc ?_ (by first | (simp; done) | (simp; omega) | omega) _ | refine Below.drew ?_ | refine Below.trans ?_ (Below.mono (by assumption) (by first | (simp; done) | (simp; omega) | omega))))
            have be1 : Below wr.heap.size wr w1 := bb1
            have HT1 := Lib.hid (HT0.out.below bb1)
            have HL1 := Lib.hid (HL0.out.below bb1)
            have HM1 := Lib.hid (HM0.out.below bb1)
            have HA1 := Lib.hid (HA0.out.below bb1)
            have HB1 := Lib.hid (HB0.out.below bb1)
            have BE1 := Lib.hid be1
            clear be1 bb1 hb1 HT0 HL0 HM0 HA0 HB0
            go_wp2_with fail
            refine (sum_any p r cap capm us m tt _ (HT1.out.below (by repeat (first | exact Below.refl _ _ | assumption | refine below_drewN ?_ _ | refine Below.setCell ?_ (by first | (simp; done) | (simp; omega)) _ | refine Below.alloc ?_ (by first | (simp; done) | (simp; omega) | omega) _ | refine Below.drew ?_ | refine Below.trans ?_ (Below.mono (by assumption) (by first | (simp; done) | (simp; omega) | omega))))) hcap (HM1.out.below (by repeat (first | exact Below.refl _ _ | assumption | refine below_drewN ?_ _ | refine Below.setCell ?_ (by first | (simp; done) | (simp; omega)) _ | refine Below.alloc ?_ (by first | (simp; done) | (simp; omega) | omega) _ | refine Below.drew ?_ | refine Below.trans ?_ (Below.mono (by assumption) (by first | (simp; done) | (simp; omega) | omega))))) (by omega)).mono ?_
            rintro e w2 ⟨rfl, hb2⟩
            rw [HSB.out]
            simp only [RA]
            have hz2 := hb2.size
            (try simp at hz2)
            have bb2 : Below w1.heap.size w1 w2 := (by repeat (first | exact Below.refl _ _ | assumption | refine below_drewN ?_ _ | refine Below.setCell ?_ (by first | (simp; done) | (simp; omega)) _ | refine Below.alloc ?_ (by first | (simp; done) | (simp; omega) | omega) _ | refine Below.drew ?_ | refine Below.trans ?_ (Below.mono (by assumption) (by first | (simp; done) | (simp; omega) | omega))))
            have be2 : Below wr.heap.size wr w2 := BE1.out.trans (bb2.mono BE1.out.size)
            have c2_a_0 : w2.cell? ⟨w1.heap.size, 0, none⟩ = some (.int .i64 ab) := cell_keep hb2 (by go_simp)
            have c2_a_1 : w2.cell? ⟨w1.heap.size, 1, none⟩ = some (.int .i64 ar.1) := cell_keep hb2 (by go_simp)
            have c2_a_2 : w2.cell? ⟨w1.heap.size, 2, none⟩ = some (.int .i64 ar.2) := cell_keep hb2 (by go_simp)
            have l2_a : w1.heap.size < w2.heap.size := by omega
            have m2_a : w1.heap.size < w2.heap.size + 1 := by omega
            have HT2 := Lib.hid (HT1.out.below bb2)
            have HL2 := Lib.hid (HL1.out.below bb2)
            have HM2 := Lib.hid (HM1.out.below bb2)
            have HA2 := Lib.hid (HA1.out.below bb2)
            have HB2 := Lib.hid (HB1.out.below bb2)
            have BE2 := Lib.hid be2
            clear be2 bb2 hb2 BE1 HT1 HL1 HM1 HA1 HB1
            go_wp2_with fail
            refine (sum_any p qa cap ca us al tt _ (HT2.out.below (by repeat (first | exact Below.refl _ _ | assumption | refine below_drewN ?_ _ | refine Below.setCell ?_ (by first | (simp; done) | (simp; omega)) _ | refine Below.alloc ?_ (by first | (simp; done) | (simp; omega) | omega) _ | refine Below.drew ?_ | refine Below.trans ?_ (Below.mono (by assumption) (by first | (simp; done) | (simp; omega) | omega))))) hcap (HA2.out.below (by repeat (first | exact Below.refl _ _ | assumption | refine below_drewN ?_ _ | refine Below.setCell ?_ (by first | (simp; done) | (simp; omega)) _ | refine Below.alloc ?_ (by first | (simp; done) | (simp; omega) | omega) _ | refine Below.drew ?_ | refine Below.trans ?_ (Below.mono (by assumption) (by first | (simp; done) | (simp; omega) | omega))))) (by omega)).mono ?_
            rintro e w3 ⟨rfl, hb3⟩
            rw [HSC.out]
            simp only [RA]
            have hz3 := hb3.size
            (try simp at hz3)
            have bb3 : Below w2.heap.size w2 w3 := (by repeat (first | exact Below.refl _ _ | assumption | refine below_drewN ?_ _ | refine Below.setCell ?_ (by first | (simp; done) | (simp; omega)) _ | refine Below.alloc ?_ (by first | (simp; done) | (simp; omega) | omega) _ | refine Below.drew ?_ | refine Below.trans ?_ (Below.mono (by assumption) (by first | (simp; done) | (simp; omega) | omega))))
            have be3 : Below wr.heap.size wr w3 := BE2.out.trans (bb3.mono BE2.out.size)
            have c3_a_0 : w3.cell? ⟨w1.heap.size, 0, none⟩ = some (.int .i64 ab) := cell_keep bb3 c2_a_0
            have c3_a_1 : w3.cell? ⟨w1.heap.size, 1, none⟩ = some (.int .i64 ar.1) := cell_keep bb3 c2_a_1
            have c3_a_2 : w3.cell? ⟨w1.heap.size, 2, none⟩ = some (.int .i64 ar.2) := cell_keep bb3 c2_a_2
            have l3_a : w1.heap.size < w3.heap.size := by omega
            have m3_a : w1.heap.size < w3.heap.size + 1 := by omega
            have c3_b_0 : w3.cell? ⟨w2.heap.size, 0, none⟩ = some (.int .i64 bb) := cell_keep hb3 (by go_simp)
            have c3_b_1 : w3.cell? ⟨w2.heap.size, 1, none⟩ = some (.int .i64 br.1) := cell_keep hb3 (by go_simp)
            have c3_b_2 : w3.cell? ⟨w2.heap.size, 2, none⟩ = some (.int .i64 br.2) := cell_keep hb3 (by go_simp)
            have l3_b : w2.heap.size < w3.heap.size := by omega
            have m3_b : w2.heap.size < w3.heap.size + 1 := by omega
            have HT3 := Lib.hid (HT2.out.below bb3)
            have HL3 := Lib.hid (HL2.out.below bb3)
            have HM3 := Lib.hid (HM2.out.below bb3)
            have HA3 := Lib.hid (HA2.out.below bb3)
            have HB3 := Lib.hid (HB2.out.below bb3)
            have BE3 := Lib.hid be3
            clear be3 bb3 hb3 BE2 c2_a_0 c2_a_1 c2_a_2 l2_a m2_a HT2 HL2 HM2 HA2 HB2
            go_wp2_with fail
            refine (sum_any p qb cap cbk us bk tt _ (HT3.out.below (by repeat (first | exact Below.refl _ _ | assumption | refine below_drewN ?_ _ | refine Below.setCell ?_ (by first | (simp; done) | (simp; omega)) _ | refine Below.alloc ?_ (by first | (simp; done) | (simp; omega) | omega) _ | refine Below.drew ?_ | refine Below.trans ?_ (Below.mono (by assumption) (by first | (simp; done) | (simp; omega) | omega))))) hcap (HB3.out.below (by repeat (first | exact Below.refl _ _ | assumption | refine below_drewN ?_ _ | refine Below.setCell ?_ (by first | (simp; done) | (simp; omega)) _ | refine Below.alloc ?_ (by first | (simp; done) | (simp; omega) | omega) _ | refine Below.drew ?_ | refine Below.trans ?_ (Below.mono (by assumption) (by first | (simp; done) | (simp; omega) | omega))))) (by omega)).mono ?_
            rintro e w4 ⟨rfl, hb4⟩
            rw [HSD.out]
            simp only [RA]
            have hz4 := hb4.size
            (try simp at hz4)
            have bb4 : Below w3.heap.size w3 w4 := (by repeat (first | exact Below.refl _ _ | assumption | refine below_drewN ?_ _ | refine Below.setCell ?_ (by first | (simp; done) | (simp; omega)) _ | refine Below.alloc ?_ (by first | (simp; done) | (simp; omega) | omega) _ | refine Below.drew ?_ | refine Below.trans ?_ (Below.mono (by assumption) (by first | (simp; done) | (simp; omega) | omega))))
            have be4 : Below wr.heap.size wr w4 := BE3.out.trans (bb4.mono BE3.out.size)
            have c4_a_0 : w4.cell? ⟨w1.heap.size, 0, none⟩ = some (.int .i64 ab) := cell_keep bb4 c3_a_0
            have c4_a_1 : w4.cell? ⟨w1.heap.size, 1, none⟩ = some (.int .i64 ar.1) := cell_keep bb4 c3_a_1
            have c4_a_2 : w4.cell? ⟨w1.heap.size, 2, none⟩ = some (.int .i64 ar.2) := cell_keep bb4 c3_a_2
            have l4_a : w1.heap.size < w4.heap.size := by omega
            have m4_a : w1.heap.size < w4.heap.size + 1 := by omega
            have c4_b_0 : w4.cell? ⟨w2.heap.size, 0, none⟩ = some (.int .i64 bb) := cell_keep bb4 c3_b_0
            have c4_b_1 : w4.cell? ⟨w2.heap.size, 1, none⟩ = some (.int .i64 br.1) := cell_keep bb4 c3_b_1
            have c4_b_2 : w4.cell? ⟨w2.heap.size, 2, none⟩ = some (.int .i64 br.2) := cell_keep bb4 c3_b_2
            have l4_b : w2.heap.size < w4.heap.size := by omega
            have m4_b : w2.heap.size < w4.heap.size + 1 := by omega
            have c4_c_0 : w4.cell? ⟨w3.heap.size, 0, none⟩ = some (.int .i64 cb1) := cell_keep hb4 (by go_simp)
            have c4_c_1 : w4.cell? ⟨w3.heap.size, 1, none⟩ = some (.int .i64 cr.1) := cell_keep hb4 (by go_simp)
            have c4_c_2 : w4.cell? ⟨w3.heap.size, 2, none⟩ = some (.int .i64 cr.2) := cell_keep hb4 (by go_simp)
            have l4_c : w3.heap.size < w4.heap.size := by omega
            have m4_c : w3.heap.size < w4.heap.size + 1 := by omega
            have HT4 := Lib.hid (HT3.out.below bb4)
            have HL4 := Lib.hid (HL3.out.below bb4)
            have HM4 := Lib.hid (HM3.out.below bb4)
            have HA4 := Lib.hid (HA3.out.below bb4)
            have HB4 := Lib.hid (HB3.out.below bb4)
            have BE4 := Lib.hid be4
            clear be4 bb4 hb4 BE3 c3_a_0 c3_a_1 c3_a_2 l3_a m3_a c3_b_0 c3_b_1 c3_b_2 l3_b m3_b HT3 HL3 HM3 HA3 HB3
            go_wp2_with fail
            go_ret
            exact ⟨rfl, HBWR.out.trans ((show Below wr.heap.size wr _ from (by have q := BE4.out; repeat (first | exact q | refine Below.setCell ?_ (by first | (simp; done) | omega | (simp; omega)) _ | refine Below.alloc ?_ (by first | (simp; done) | omega | (simp; omega)) _ | refine below_drewN ?_ _ | refine Below.drew ?_))).mono HBWR.out.size)⟩
          · have hgb : (g != 0) = true := bne_iff_ne.2 hg0
            have hgc : (g == 0) = false := beq_eq_false_iff_ne.2 hg0
            clear hg0
            have hfb : (f != 0) = true := bne_iff_ne.2 hf0
            have hfc : (f == 0) = false := beq_eq_false_iff_ne.2 hf0
            clear hf0
            go_wp2_with fail
            refine (sum_any p q cap capl us l tt _ (HT0.out.below (by repeat (first | exact Below.refl _ _ | assumption | refine below_drewN ?_ _ | refine Below.setCell ?_ (by first | (simp; done) | (simp; omega)) _ | refine Below.alloc ?_ (by first | (simp; done) | (simp; omega) | omega) _ | refine Below.drew ?_ | refine Below.trans ?_ (Below.mono (by assumption) (by first | (simp; done) | (simp; omega) | omega))))) hcap (HL0.out.below (by repeat (first | exact Below.refl _ _ | assumption | refine below_drewN ?_ _ | refine Below.setCell ?_ (by first | (simp; done) | (simp; omega)) _ | refine Below.alloc ?_ (by first | (simp; done) | (simp; omega) | omega) _ | refine Below.drew ?_ | refine Below.trans ?_ (Below.mono (by assumption) (by first | (simp; done) | (simp; omega) | omega))))) (by omega)).mono ?_
            rintro e w1 ⟨rfl, hb1⟩
            rw [HSA.out]
            simp only [RA]
            have hz1 := hb1.size
            (try simp at hz1)
            have bb1 : Below wr.heap.size wr w1 := (by repeat (first | exact Below.refl _ _ | assumption | refine below_drewN ?_ _ | refine Below.setCell ?_ (by first | (simp; done) | (simp; omega)) _ | refine Below.alloc ?_ (by first | (simp; done) | (simp; omega) | omega) _ | refine Below.drew ?_ | refine Below.trans ?_ (Below.mono (by assumption) (by first | (simp; done) | (simp; omega) | omega))))
            have be1 : Below wr.heap.size wr w1 := bb1
            have HT1 := Lib.hid (HT0.out.below bb1)
            have HL1 := Lib.hid (HL0.out.below bb1)
            have HM1 := Lib.hid (HM0.out.below bb1)
            have HA1 := Lib.hid (HA0.out.below bb1)
            have HB1 := Lib.hid (HB0.out.below bb1)
            have BE1 := Lib.hid be1
            clear be1 bb1 hb1 HT0 HL0 HM0 HA0 HB0
            go_wp2_with fail
            refine (sum_any p r cap capm us m tt _ (HT1.out.below (by repeat (first | exact Below.refl _ _ | assumption | refine below_drewN ?_ _ | refine Below.setCell ?_ (by first | (simp; done) | (simp; omega)) _ | refine Below.alloc ?_ (by first | (simp; done) | (simp; omega) | omega) _ | refine Below.drew ?_ | refine Below.trans ?_ (Below.mono (by assumption) (by first | (simp; done) | (simp; omega) | omega))))) hcap (HM1.out.below (by repeat (first | exact Below.refl _ _ | assumption | refine below_drewN ?_ _ | refine Below.setCell ?_ (by first | (simp; done) | (simp; omega)) _ | refine Below.alloc ?_ (by first | (simp; done) | (simp; omega) | omega) _ | refine Below.drew ?_ | refine Below.trans ?_ (Below.mono (by assumption) (by first | (simp; done) | (simp; omega) | omega))))) (by omega)).mono ?_
            rintro e w2 ⟨rfl, hb2⟩
            rw [HSB.out]
            simp only [RA]
            have hz2 := hb2.size
            (try simp at hz2)
            have bb2 : Below w1.heap.size w1 w2 := (by repeat (first | exact Below.refl _ _ | assumption | refine below_drewN ?_ _ | refine Below.setCell ?_ (by first | (simp; done) | (simp; omega)) _ | refine Below.alloc ?_ (by first | (simp; done) | (simp; omega) | omega) _ | refine Below.drew ?_ | refine Below.trans ?_ (Below.mono (by assumption) (by first | (simp; done) | (simp; omega) | omega))))
            have be2 : Below wr.heap.size wr w2 := BE1.out.trans (bb2.mono BE1.out.size)
            have c2_a_0 : w2.cell? ⟨w1.heap.size, 0, none⟩ = some (.int .i64 ab) := cell_keep hb2 (by go_simp)
            have c2_a_1 : w2.cell? ⟨w1.heap.size, 1, none⟩ = some (.int .i64 ar.1) := cell_keep hb2 (by go_simp)
            have c2_a_2 : w2.cell? ⟨w1.heap.size, 2, none⟩ = some (.int .i64 ar.2) := cell_keep hb2 (by go_simp)
            have l2_a : w1.heap.size < w2.heap.size := by omega
            have m2_a : w1.heap.size < w2.heap.size + 1 := by omega
            have HT2 := Lib.hid (HT1.out.below bb2)
            have HL2 := Lib.hid (HL1.out.below bb2)
            have HM2 := Lib.hid (HM1.out.below bb2)
            have HA2 := Lib.hid (HA1.out.below bb2)
            have HB2 := Lib.hid (HB1.out.below bb2)
            have BE2 := Lib.hid be2
            clear be2 bb2 hb2 BE1 HT1 HL1 HM1 HA1 HB1
            go_wp2_with fail
            refine (sum_any p qa cap ca us al tt _ (HT2.out.below (by repeat (first | exact Below.refl _ _ | assumption | refine below_drewN ?_ _ | refine Below.setCell ?_ (by first | (simp; done) | (simp; omega)) _ | refine Below.alloc ?_ (by first | (simp; done) | (simp; omega) | omega) _ | refine Below.drew ?_ | refine Below.trans ?_ (Below.mono (by assumption) (by first | (simp; done) | (simp; omega) | omega))))) hcap (HA2.out.below (by repeat (first | exact Below.refl _ _ | assumption | refine below_drewN ?_ _ | refine Below.setCell ?_ (by first | (simp; done) | (simp; omega)) _ | refine Below.alloc ?_ (by first | (simp; done) | (simp; omega) | omega) _ | refine Below.drew ?_ | refine Below.trans ?_ (Below.mono (by assumption) (by first | (simp; done) | (simp; omega) | omega))))) (by omega)).mono ?_
            rintro e w3 ⟨rfl, hb3⟩
            rw [HSC.out]
            simp only [RA]
            have hz3 := hb3.size
            (try simp at hz3)
            have bb3 : Below w2.heap.size w2 w3 := (by repeat (first | exact Below.refl _ _ | assumption | refine below_drewN ?_ _ | refine Below.setCell ?_ (by first | (simp; done) | (simp; omega)) _ | refine Below.alloc ?_ (by first | (simp; done) | (simp; omega) | omega) _ | refine Below.drew ?_ | refine Below.trans ?_ (Below.mono (by assumption) (by first | (simp; done) | (simp; omega) | omega))))
            have be3 : Below wr.heap.size wr w3 := BE2.out.trans (bb3.mono BE2.out.size)
            have c3_a_0 : w3.cell? ⟨w1.heap.size, 0, none⟩ = some (.int .i64 ab) := cell_keep bb3 c2_a_0
            have c3_a_1 : w3.cell? ⟨w1.heap.size, 1, none⟩ = some (.int .i64 ar.1) := cell_keep bb3 c2_a_1
            have c3_a_2 : w3.cell? ⟨w1.heap.size, 2, none⟩ = some (.int .i64 ar.2) := cell_keep bb3 c2_a_2
            have l3_a : w1.heap.size < w3.heap.size := by omega
            have m3_a : w1.heap.size < w3.heap.size + 1 := by omega
            have c3_b_0 : w3.cell? ⟨w2.heap.size, 0, none⟩ = some (.int .i64 bb) := cell_keep hb3 (by go_simp)
            have c3_b_1 : w3.cell? ⟨w2.heap.size, 1, none⟩ = some (.int .i64 br.1) := cell_keep hb3 (by go_simp)
            have c3_b_2 : w3.cell? ⟨w2.heap.size, 2, none⟩ = some (.int .i64 br.2) := cell_keep hb3 (by go_simp)
            have l3_b : w2.heap.size < w3.heap.size := by omega
            have m3_b : w2.heap.size < w3.heap.size + 1 := by omega
            have HT3 := Lib.hid (HT2.out.below bb3)
            have HL3 := Lib.hid (HL2.out.below bb3)
            have HM3 := Lib.hid (HM2.out.below bb3)
            have HA3 := Lib.hid (HA2.out.below bb3)
            have HB3 := Lib.hid (HB2.out.below bb3)
            have BE3 := Lib.hid be3
            clear be3 bb3 hb3 BE2 c2_a_0 c2_a_1 c2_a_2 l2_a m2_a HT2 HL2 HM2 HA2 HB2
            go_wp2_with fail
            refine (sum_any p qb cap cbk us bk tt _ (HT3.out.below (by repeat (first | exact Below.refl _ _ | assumption | refine below_drewN ?_ _ | refine Below.setCell ?_ (by first | (simp; done) | (simp; omega)) _ | refine Below.alloc ?_ (by first | (simp; done) | (simp; omega) | omega) _ | refine Below.drew ?_ | refine Below.trans ?_ (Below.mono (by assumption) (by first | (simp; done) | (simp; omega) | omega))))) hcap (HB3.out.below (by repeat (first | exact Below.refl _ _ | assumption | refine below_drewN ?_ _ | refine Below.setCell ?_ (by first | (simp; done) | (simp; omega)) _ | refine Below.alloc ?_ (by first | (simp; done) | (simp; omega) | omega) _ | refine Below.drew ?_ | refine Below.trans ?_ (Below.mono (by assumption) (by first | (simp; done) | (simp; omega) | omega))))) (by omega)).mono ?_
            rintro e w4 ⟨rfl, hb4⟩
            rw [HSD.out]
            simp only [RA]
            have hz4 := hb4.size
            (try simp at hz4)
            have bb4 : Below w3.heap.size w3 w4 := (by repeat (first | exact Below.refl _ _ | assumption | refine below_drewN ?_ _ | refine Below.setCell ?_ (by first | (simp; done) | (simp; omega)) _ | refine Below.alloc ?_ (by first | (simp; done) | (simp; omega) | omega) _ | refine Below.drew ?_ | refine Below.trans ?_ (Below.mono (by assumption) (by first | (simp; done) | (simp; omega) | omega))))
            have be4 : Below wr.heap.size wr w4 := BE3.out.trans (bb4.mono BE3.out.size)
            have c4_a_0 : w4.cell? ⟨w1.heap.size, 0, none⟩ = some (.int .i64 ab) := cell_keep bb4 c3_a_0
            have c4_a_1 : w4.cell? ⟨w1.heap.size, 1, none⟩ = some (.int .i64 ar.1) := cell_keep bb4 c3_a_1
            have c4_a_2 : w4.cell? ⟨w1.heap.size, 2, none⟩ = some (.int .i64 ar.2) := cell_keep bb4 c3_a_2
            have l4_a : w1.heap.size < w4.heap.size := by omega
            have m4_a : w1.heap.size < w4.heap.size + 1 := by omega
            have c4_b_0 : w4.cell? ⟨w2.heap.size, 0, none⟩ = some (.int .i64 bb) := cell_keep bb4 c3_b_0
            have c4_b_1 : w4.cell? ⟨w2.heap.size, 1, none⟩ = some (.int .i64 br.1) := cell_keep bb4 c3_b_1
            have c4_b_2 : w4.cell? ⟨w2.heap.size, 2, none⟩ = some (.int .i64 br.2) := cell_keep bb4 c3_b_2
            have l4_b : w2.heap.size < w4.heap.size := by omega
            have m4_b : w2.heap.size < w4.heap.size + 1 := by omega
            have c4_c_0 : w4.cell? ⟨w3.heap.size, 0, none⟩ = some (.int .i64 cb1) := cell_keep hb4 (by go_simp)
            have c4_c_1 : w4.cell? ⟨w3.heap.size, 1, none⟩ = some (.int .i64 cr.1) := cell_keep hb4 (by go_simp)
            have c4_c_2 : w4.cell? ⟨w3.heap.size, 2, none⟩ = some (.int .i64 cr.2) := cell_keep hb4 (by go_simp)
            have l4_c : w3.heap.size < w4.heap.size := by omega
            have m4_c : w3.heap.size < w4.heap.size + 1 := by omega
            have HT4 := Lib.hid (HT3.out.below bb4)
            have HL4 := Lib.hid (HL3.out.below bb4)
            have HM4 := Lib.hid (HM3.out.below bb4)
            have HA4 := Lib.hid (HA3.out.below bb4)
            have HB4 := Lib.hid (HB3.out.below bb4)
            have BE4 := Lib.hid be4
            clear be4 bb4 hb4 BE3 c3_a_0 c3_a_1 c3_a_2 l3_a m3_a c3_b_0 c3_b_1 c3_b_2 l3_b m3_b HT3 HL3 HM3 HA3 HB3
            go_wp2_with fail
            go_ret
            exact ⟨rfl, HBWR.out.trans ((show Below wr.heap.size wr _ from (by have q := BE4.out; repeat (first | exact q | refine Below.setCell ?_ (by first | (simp; done) | omega | (simp; omega)) _ | refine Below.alloc ?_ (by first | (simp; done) | omega | (simp; omega)) _ | refine below_drewN ?_ _ | refine Below.drew ?_))).mono HBWR.out.size)⟩
        subst hg0
        by_cases hf0 : f = 0
        rotate_left
        · by_cases hh0 : h = 0
          · subst hh0
            obtain ⟨rfl, rfl⟩ := HREV.out rfl rfl
            have hfb : (f != 0) = true := bne_iff_ne.2 hf0
            have hfc : (f == 0) = false := beq_eq_false_iff_ne.2 hf0
            clear hf0
            go_wp2_with fail
            refine (sum_any p q cap capl us l tt _ (HT0.out.below (by repeat (first | exact Below.refl _ _ | assumption | refine below_drewN ?_ _ | refine Below.setCell ?_ (by first | (simp; done) | (simp; omega)) _ | refine Below.alloc ?_ (by first | (simp; done) | (simp; omega) | omega) _ | refine Below.drew ?_ | refine Below.trans ?_ (Below.mono (by assumption) (by first | (simp; done) | (simp; omega) | omega))))) hcap (HL0.out.below (by repeat (first | exact Below.refl _ _ | assumption | refine below_drewN ?_ _ | refine Below.setCell ?_ (by first | (simp; done) | (simp; omega)) _ | refine Below.alloc ?_ (by first | (simp; done) | (simp; omega) | omega) _ | refine Below.drew ?_ | refine Below.trans ?_ (Below.mono (by assumption) (by first | (simp; done) | (simp; omega) | omega))))) (by omega)).mono ?_
            rintro e w1 ⟨rfl, hb1⟩
            rw [HSA.out]
            simp only [RA]
            have hz1 := hb1.size
            (try simp at hz1)
            have bb1 : Below wr.heap.size wr w1 := (by repeat (first | exact Below.refl _ _ | assumption | refine below_drewN ?_ _ | refine Below.setCell ?_ (by first | (simp; done) | (simp; omega)) _ | refine Below.alloc ?_ (by first | (simp; done) | (simp; omega) | omega) _ | refine Below.drew ?_ | refine Below.trans ?_ (Below.mono (by assumption) (by first | (simp; done) | (simp; omega) | omega))))
            have be1 : Below wr.heap.size wr w1 := bb1
            have HT1 := Lib.hid (HT0.out.below bb1)
            have HL1 := Lib.hid (HL0.out.below bb1)
            have HM1 := Lib.hid (HM0.out.below bb1)
            have HA1 := Lib.hid (HA0.out.below bb1)
            have HB1 := Lib.hid (HB0.out.below bb1)
            have BE1 := Lib.hid be1
            clear be1 bb1 hb1 HT0 HL0 HM0 HA0 HB0
            go_wp2_with fail
            refine (sum_any p r cap capm us m tt _ (HT1.out.below (by repeat (first | exact Below.refl _ _ | assumption | refine below_drewN ?_ _ | refine Below.setCell ?_ (by first | (simp; done) | (simp; omega)) _ | refine Below.alloc ?_ (by first | (simp; done) | (simp; omega) | omega) _ | refine Below.drew ?_ | refine Below.trans ?_ (Below.mono (by assumption) (by first | (simp; done) | (simp; omega) | omega))))) hcap (HM1.out.below (by repeat (first | exact Below.refl _ _ | assumption | refine below_drewN ?_ _ | refine Below.setCell ?_ (by first | (simp; done) | (simp; omega)) _ | refine Below.alloc ?_ (by first | (simp; done) | (simp; omega) | omega) _ | refine Below.drew ?_ | refine Below.trans ?_ (Below.mono (by assumption) (by first | (simp; done) | (simp; omega) | omega))))) (by omega)).mono ?_
            rintro e w2 ⟨rfl, hb2⟩
            rw [HSB.out]
            simp only [RA]
            have hz2 := hb2.size
            (try simp at hz2)
            have bb2 : Below w1.heap.size w1 w2 := (by repeat (first | exact Below.refl _ _ | assumption | refine below_drewN ?_ _ | refine Below.setCell ?_ (by first | (simp; done) | (simp; omega)) _ | refine Below.alloc ?_ (by first | (simp; done) | (simp; omega) | omega) _ | refine Below.drew ?_ | refine Below.trans ?_ (Below.mono (by assumption) (by first | (simp; done) | (simp; omega) | omega))))
            have be2 : Below wr.heap.size wr w2 := BE1.out.trans (bb2.mono BE1.out.size)
            have c2_a_0 : w2.cell? ⟨w1.heap.size, 0, none⟩ = some (.int .i64 ab) := cell_keep hb2 (by go_simp)
            have c2_a_1 : w2.cell? ⟨w1.heap.size, 1, none⟩ = some (.int .i64 ar.1) := cell_keep hb2 (by go_simp)
            have c2_a_2 : w2.cell? ⟨w1.heap.size, 2, none⟩ = some (.int .i64 ar.2) := cell_keep hb2 (by go_simp)
            have l2_a : w1.heap.size < w2.heap.size := by omega
            have m2_a : w1.heap.size < w2.heap.size + 1 := by omega
            have HT2 := Lib.hid (HT1.out.below bb2)
            have HL2 := Lib.hid (HL1.out.below bb2)
            have HM2 := Lib.hid (HM1.out.below bb2)
            have HA2 := Lib.hid (HA1.out.below bb2)
            have HB2 := Lib.hid (HB1.out.below bb2)
            have BE2 := Lib.hid be2
            clear be2 bb2 hb2 BE1 HT1 HL1 HM1 HA1 HB1
            go_wp2_with fail
            refine (sum_any p qa cap ca us al tt _ (HT2.out.below (by repeat (first | exact Below.refl _ _ | assumption | refine below_drewN ?_ _ | refine Below.setCell ?_ (by first | (simp; done) | (simp; omega)) _ | refine Below.alloc ?_ (by first | (simp; done) | (simp; omega) | omega) _ | refine Below.drew ?_ | refine Below.trans ?_ (Below.mono (by assumption) (by first | (simp; done) | (simp; omega) | omega))))) hcap (HA2.out.below (by repeat (first | exact Below.refl _ _ | assumption | refine below_drewN ?_ _ | refine Below.setCell ?_ (by first | (simp; done) | (simp; omega)) _ | refine Below.alloc ?_ (by first | (simp; done) | (simp; omega) | omega) _ | refine Below.drew ?_ | refine Below.trans ?_ (Below.mono (by assumption) (by first | (simp; done) | (simp; omega) | omega))))) (by omega)).mono ?_
            rintro e w3 ⟨rfl, hb3⟩
            rw [HSC.out]
            simp only [RA]
            have hz3 := hb3.size
            (try simp at hz3)
            have bb3 : Below w2.heap.size w2 w3 := (by repeat (first | exact Below.refl _ _ | assumption | refine below_drewN ?_ _ | refine Below.setCell ?_ (by first | (simp; done) | (simp; omega)) _ | refine Below.alloc ?_ (by first | (simp; done) | (simp; omega) | omega) _ | refine Below.drew ?_ | refine Below.trans ?_ (Below.mono (by assumption) (by first | (simp; done) | (simp; omega) | omega))))
            have be3 : Below wr.heap.size wr w3 := BE2.out.trans (bb3.mono BE2.out.size)
            have c3_a_0 : w3.cell? ⟨w1.heap.size, 0, none⟩ = some (.int .i64 ab) := cell_keep bb3 c2_a_0
            have c3_a_1 : w3.cell? ⟨w1.heap.size, 1, none⟩ = some (.int .i64 ar.1) := cell_keep bb3 c2_a_1
            have c3_a_2 : w3.cell? ⟨w1.heap.size, 2, none⟩ = some (.int .i64 ar.2) := cell_keep bb3 c2_a_2
            have l3_a : w1.heap.size < w3.heap.size := by omega
            have m3_a : w1.heap.size < w3.heap.size + 1 := by omega
            have c3_b_0 : w3.cell? ⟨w2.heap.size, 0, none⟩ = some (.int .i64 bb) := cell_keep hb3 (by go_simp)
            have c3_b_1 : w3.cell? ⟨w2.heap.size, 1, none⟩ = some (.int .i64 br.1) := cell_keep hb3 (by go_simp)
            have c3_b_2 : w3.cell? ⟨w2.heap.size, 2, none⟩ = some (.int .i64 br.2) := cell_keep hb3 (by go_simp)
            have l3_b : w2.heap.size < w3.heap.size := by omega
            have m3_b : w2.heap.size < w3.heap.size + 1 := by omega
            have HT3 := Lib.hid (HT2.out.below bb3)
            have HL3 := Lib.hid (HL2.out.below bb3)
            have HM3 := Lib.hid (HM2.out.below bb3)
            have HA3 := Lib.hid (HA2.out.below bb3)
            have HB3 := Lib.hid (HB2.out.below bb3)
            have BE3 := Lib.hid be3
            clear be3 bb3 hb3 BE2 c2_a_0 c2_a_1 c2_a_2 l2_a m2_a HT2 HL2 HM2 HA2 HB2
            go_wp2_with fail
            refine (sum_any p qb cap cbk us bk tt _ (HT3.out.below (by repeat (first | exact Below.refl _ _ | assumption | refine below_drewN ?_ _ | refine Below.setCell ?_ (by first | (simp; done) | (simp; omega)) _ | refine Below.alloc ?_ (by first | (simp; done) | (simp; omega) | omega) _ | refine Below.drew ?_ | refine Below.trans ?_ (Below.mono (by assumption) (by first | (simp; done) | (simp; omega) | omega))))) hcap (HB3.out.below (by repeat (first | exact Below.refl _ _ | assumption | refine below_drewN ?_ _ | refine Below.setCell ?_ (by first | (simp; done) | (simp; omega)) _ | refine Below.alloc ?_ (by first | (simp; done) | (simp; omega) | omega) _ | refine Below.drew ?_ | refine Below.trans ?_ (Below.mono (by assumption) (by first | (simp; done) | (simp; omega) | omega))))) (by omega)).mono ?_
            rintro e w4 ⟨rfl, hb4⟩
            rw [HSD.out]
            simp only [RA]
            have hz4 := hb4.size
            (try simp at hz4)
            have bb4 : Below w3.heap.size w3 w4 := (by repeat (first | exact Below.refl _ _ | assumption | refine below_drewN ?_ _ | refine Below.setCell ?_ (by first | (simp; done) | (simp; omega)) _ | refine Below.alloc ?_ (by first | (simp; done) | (simp; omega) | omega) _ | refine Below.drew ?_ | refine Below.trans ?_ (Below.mono (by assumption) (by first | (simp; done) | (simp; omega) | omega))))
            have be4 : Below wr.heap.size wr w4 := BE3.out.trans (bb4.mono BE3.out.size)
            have c4_a_0 : w4.cell? ⟨w1.heap.size, 0, none⟩ = some (.int .i64 ab) := cell_keep bb4 c3_a_0
            have c4_a_1 : w4.cell? ⟨w1.heap.size, 1, none⟩ = some (.int .i64 ar.1) := cell_keep bb4 c3_a_1
            have c4_a_2 : w4.cell? ⟨w1.heap.size, 2, none⟩ = some (.int .i64 ar.2) := cell_keep bb4 c3_a_2
            have l4_a : w1.heap.size < w4.heap.size := by omega
            have m4_a : w1.heap.size < w4.heap.size + 1 := by omega
            have c4_b_0 : w4.cell? ⟨w2.heap.size, 0, none⟩ = some (.int .i64 bb) := cell_keep bb4 c3_b_0
            have c4_b_1 : w4.cell? ⟨w2.heap.size, 1, none⟩ = some (.int .i64 br.1) := cell_keep bb4 c3_b_1
            have c4_b_2 : w4.cell? ⟨w2.heap.size, 2, none⟩ = some (.int .i64 br.2) := cell_keep bb4 c3_b_2
            have l4_b : w2.heap.size < w4.heap.size := by omega
            have m4_b : w2.heap.size < w4.heap.size + 1 := by omega
            have c4_c_0 : w4.cell? ⟨w3.heap.size, 0, none⟩ = some (.int .i64 cb1) := cell_keep hb4 (by go_simp)
            have c4_c_1 : w4.cell? ⟨w3.heap.size, 1, none⟩ = some (.int .i64 cr.1) := cell_keep hb4 (by go_simp)
            have c4_c_2 : w4.cell? ⟨w3.heap.size, 2, none⟩ = some (.int .i64 cr.2) := cell_keep hb4 (by go_simp)
            have l4_c : w3.heap.size < w4.heap.size := by omega
            have m4_c : w3.heap.size < w4.heap.size + 1 := by omega
            have HT4 := Lib.hid (HT3.out.below bb4)
            have HL4 := Lib.hid (HL3.out.below bb4)
            have HM4 := Lib.hid (HM3.out.below bb4)
            have HA4 := Lib.hid (HA3.out.below bb4)
            have HB4 := Lib.hid (HB3.out.below bb4)
            have BE4 := Lib.hid be4
            clear be4 bb4 hb4 BE3 c3_a_0 c3_a_1 c3_a_2 l3_a m3_a c3_b_0 c3_b_1 c3_b_2 l3_b m3_b HT3 HL3 HM3 HA3 HB3
            go_wp2_with fail
            go_ret
            exact ⟨rfl, HBWR.out.trans ((show Below wr.heap.size wr _ from (by have q := BE4.out; repeat (first | exact q | refine Below.setCell ?_ (by first | (simp; done) | omega | (simp; omega)) _ | refine Below.alloc ?_ (by first | (simp; done) | omega | (simp; omega)) _ | refine below_drewN ?_ _ | refine Below.drew ?_))).mono HBWR.out.size)⟩
          · have hfb : (f != 0) = true := bne_iff_ne.2 hf0
            have hfc : (f == 0) = false := beq_eq_false_iff_ne.2 hf0
            clear hf0
            have hhb : (h != 0) = true := bne_iff_ne.2 hh0
            have hhc : (h == 0) = false := beq_eq_false_iff_ne.2 hh0
            clear hh0
            go_wp2_with fail
            refine (sum_any p q cap capl us l tt _ (HT0.out.below (by repeat (first | exact Below.refl _ _ | assumption | refine below_drewN ?_ _ | refine Below.setCell ?_ (by first | (simp; done) | (simp; omega)) _ | refine Below.alloc ?_ (by first | (simp; done) | (simp; omega) | omega) _ | refine Below.drew ?_ | refine Below.trans ?_ (Below.mono (by assumption) (by first | (simp; done) | (simp; omega) | omega))))) hcap (HL0.out.below (by repeat (first | exact Below.refl _ _ | assumption | refine below_drewN ?_ _ | refine Below.setCell ?_ (by first | (simp; done) | (simp; omega)) _ | refine Below.alloc ?_ (by first | (simp; done) | (simp; omega) | omega) _ | refine Below.drew ?_ | refine Below.trans ?_ (Below.mono (by assumption) (by first | (simp; done) | (simp; omega) | omega))))) (by omega)).mono ?_
            rintro e w1 ⟨rfl, hb1⟩
            rw [HSA.out]
            simp only [RA]
            have hz1 := hb1.size
            (try simp at hz1)
            have bb1 : Below wr.heap.size wr w1 := (by repeat (first | exact Below.refl _ _ | assumption | refine below_drewN ?_ _ | refine Below.setCell ?_ (by first | (simp; done) | (simp; omega)) _ | refine Below.alloc ?_ (by first | (simp; done) | (simp; omega) | omega) _ | refine Below.drew ?_ | refine Below.trans ?_ (Below.mono (by assumption) (by first | (simp; done) | (simp; omega) | omega))))
            have be1 : Below wr.heap.size wr w1 := bb1
            have HT1 := Lib.hid (HT0.out.below bb1)
            have HL1 := Lib.hid (HL0.out.below bb1)
            have HM1 := Lib.hid (HM0.out.below bb1)
            have HA1 := Lib.hid (HA0.out.below bb1)
            have HB1 := Lib.hid (HB0.out.below bb1)
            have BE1 := Lib.hid be1
            clear be1 bb1 hb1 HT0 HL0 HM0 HA0 HB0
            go_wp2_with fail
            refine (sum_any p r cap capm us m tt _ (HT1.out.below (by repeat (first | exact Below.refl _ _ | assumption | refine below_drewN ?_ _ | refine Below.setCell ?_ (by first | (simp; done) | (simp; omega)) _ | refine Below.alloc ?_ (by first | (simp; done) | (simp; omega) | omega) _ | refine Below.drew ?_ | refine Below.trans ?_ (Below.mono (by assumption) (by first | (simp; done) | (simp; omega) | omega))))) hcap (HM1.out.below (by repeat (first | exact Below.refl _ _ | assumption | refine below_drewN ?_ _ | refine Below.setCell ?_ (by first | (simp; done) | (simp; omega)) _ | refine Below.alloc ?_ (by first | (simp; done) | (simp; omega) | omega) _ | refine Below.drew ?_ | refine Below.trans ?_ (Below.mono (by assumption) (by first | (simp; done) | (simp; omega) | omega))))) (by omega)).mono ?_
            rintro e w2 ⟨rfl, hb2⟩
            rw [HSB.out]
            simp only [RA]
            have hz2 := hb2.size
            (try simp at hz2)
            have bb2 : Below w1.heap.size w1 w2 := (by repeat (first | exact Below.refl _ _ | assumption | refine below_drewN ?_ _ | refine Below.setCell ?_ (by first | (simp; done) | (simp; omega)) _ | refine Below.alloc ?_ (by first | (simp; done) | (simp; omega) | omega) _ | refine Below.drew ?_ | refine Below.trans ?_ (Below.mono (by assumption) (by first | (simp; done) | (simp; omega) | omega))))
            have be2 : Below wr.heap.size wr w2 := BE1.out.trans (bb2.mono BE1.out.size)
            have c2_a_0 : w2.cell? ⟨w1.heap.size, 0, none⟩ = some (.int .i64 ab) := cell_keep hb2 (by go_simp)
            have c2_a_1 : w2.cell? ⟨w1.heap.size, 1, none⟩ = some (.int .i64 ar.1) := cell_keep hb2 (by go_simp)
            have c2_a_2 : w2.cell? ⟨w1.heap.size, 2, none⟩ = some (.int .i64 ar.2) := cell_keep hb2 (by go_simp)
            have l2_a : w1.heap.size < w2.heap.size := by omega
            have m2_a : w1.heap.size < w2.heap.size + 1 := by omega
            have HT2 := Lib.hid (HT1.out.below bb2)
            have HL2 := Lib.hid (HL1.out.below bb2)
            have HM2 := Lib.hid (HM1.out.below bb2)
            have HA2 := Lib.hid (HA1.out.below bb2)
            have HB2 := Lib.hid (HB1.out.below bb2)
            have BE2 := Lib.hid be2
            clear be2 bb2 hb2 BE1 HT1 HL1 HM1 HA1 HB1
            go_wp2_with fail
            refine (sum_any p qa cap ca us al tt _ (HT2.out.below (by repeat (first | exact Below.refl _ _ | assumption | refine below_drewN ?_ _ | refine Below.setCell ?_ (by first | (simp; done) | (simp; omega)) _ | refine Below.alloc ?_ (by first | (simp; done) | (simp; omega) | omega) _ | refine Below.drew ?_ | refine Below.trans ?_ (Below.mono (by assumption) (by first | (simp; done) | (simp; omega) | omega))))) hcap (HA2.out.below (by repeat (first | exact Below.refl _ _ | assumption | refine below_drewN ?_ _ | refine Below.setCell ?_ (by first | (simp; done) | (simp; omega)) _ | refine Below.alloc ?_ (by first | (simp; done) | (simp; omega) | omega) _ | refine Below.drew ?_ | refine Below.trans ?_ (Below.mono (by assumption) (by first | (simp; done) | (simp; omega) | omega))))) (by omega)).mono ?_
            rintro e w3 ⟨rfl, hb3⟩
            rw [HSC.out]
            simp only [RA]
            have hz3 := hb3.size
            (try simp at hz3)
            have bb3 : Below w2.heap.size w2 w3 := (by repeat (first | exact Below.refl _ _ | assumption | refine below_drewN ?_ _ | refine Below.setCell ?_ (by first | (simp; done) | (simp; omega)) _ | refine Below.alloc ?_ (by first | (simp; done) | (simp; omega) | omega) _ | refine Below.drew ?_ | refine Below.trans ?_ (Below.mono (by assumption) (by first | (simp; done) | (simp; omega) | omega))))
            have be3 : Below wr.heap.size wr w3 := BE2.out.trans (bb3.mono BE2.out.size)
            have c3_a_0 : w3.cell? ⟨w1.heap.size, 0, none⟩ = some (.int .i64 ab) := cell_keep bb3 c2_a_0
            have c3_a_1 : w3.cell? ⟨w1.heap.size, 1, none⟩ = some (.int .i64 ar.1) := cell_keep bb3 c2_a_1
            have c3_a_2 : w3.cell? ⟨w1.heap.size, 2, none⟩ = some (.int .i64 ar.2) := cell_keep bb3 c2_a_2
            have l3_a : w1.heap.size < w3.heap.size := by omega
            have m3_a : w1.heap.size < w3.heap.size + 1 := by omega
            have c3_b_0 : w3.cell? ⟨w2.heap.size, 0, none⟩ = some (.int .i64 bb) := cell_keep hb3 (by go_simp)
            have c3_b_1 : w3.cell? ⟨w2.heap.size, 1, none⟩ = some (.int .i64 br.1) := cell_keep hb3 (by go_simp)
            have c3_b_2 : w3.cell? ⟨w2.heap.size, 2, none⟩ = some (.int .i64 br.2) := cell_keep hb3 (by go_simp)
            have l3_b : w2.heap.size < w3.heap.size := by omega
            have m3_b : w2.heap.size < w3.heap.size + 1 := by omega
            have HT3 := Lib.hid (HT2.out.below bb3)
            have HL3 := Lib.hid (HL2.out.below bb3)
            have HM3 := Lib.hid (HM2.out.below bb3)
            have HA3 := Lib.hid (HA2.out.below bb3)
            have HB3 := Lib.hid (HB2.out.below bb3)
            have BE3 := Lib.hid be3
            clear be3 bb3 hb3 BE2 c2_a_0 c2_a_1 c2_a_2 l2_a m2_a HT2 HL2 HM2 HA2 HB2
            go_wp2_with fail
            refine (sum_any p qb cap cbk us bk tt _ (HT3.out.below (by repeat (first | exact Below.refl _ _ | assumption | refine below_drewN ?_ _ | refine Below.setCell ?_ (by first | (simp; done) | (simp; omega)) _ | refine Below.alloc ?_ (by first | (simp; done) | (simp; omega) | omega) _ | refine Below.drew ?_ | refine Below.trans ?_ (Below.mono (by assumption) (by first | (simp; done) | (simp; omega) | omega))))) hcap (HB3.out.below (by repeat (first | exact Below.refl _ _ | assumption | refine below_drewN ?_ _ | refine Below.setCell ?_ (by first | (simp; done) | (simp; omega)) _ | refine Below.alloc ?_ (by first | (simp; done) | (simp; omega) | omega) _ | refine Below.drew ?_ | refine Below.trans ?_ (Below.mono (by assumption) (by first | (simp; done) | (simp; omega) | omega))))) (by omega)).mono ?_
            rintro e w4 ⟨rfl, hb4⟩
            rw [HSD.out]
            simp only [RA]
            have hz4 := hb4.size
            (try simp at hz4)
            have bb4 : Below w3.heap.size w3 w4 := (by repeat (first | exact Below.refl _ _ | assumption | refine below_drewN ?_ _ | refine Below.setCell ?_ (by first | (simp; done) | (simp; omega)) _ | refine Below.alloc ?_ (by first | (simp; done) | (simp; omega) | omega) _ | refine Below.drew ?_ | refine Below.trans ?_ (Below.mono (by assumption) (by first | (simp; done) | (simp; omega) | omega))))
            have be4 : Below wr.heap.size wr w4 := BE3.out.trans (bb4.mono BE3.out.size)
            have c4_a_0 : w4.cell? ⟨w1.heap.size, 0, none⟩ = some (.int .i64 ab) := cell_keep bb4 c3_a_0
            have c4_a_1 : w4.cell? ⟨w1.heap.size, 1, none⟩ = some (.int .i64 ar.1) := cell_keep bb4 c3_a_1
            have c4_a_2 : w4.cell? ⟨w1.heap.size, 2, none⟩ = some (.int .i64 ar.2) := cell_keep bb4 c3_a_2
            have l4_a : w1.heap.size < w4.heap.size := by omega
            have m4_a : w1.heap.size < w4.heap.size + 1 := by omega
            have c4_b_0 : w4.cell? ⟨w2.heap.size, 0, none⟩ = some (.int .i64 bb) := cell_keep bb4 c3_b_0
            have c4_b_1 : w4.cell? ⟨w2.heap.size, 1, none⟩ = some (.int .i64 br.1) := cell_keep bb4 c3_b_1
            have c4_b_2 : w4.cell? ⟨w2.heap.size, 2, none⟩ = some (.int .i64 br.2) := cell_keep bb4 c3_b_2
            have l4_b : w2.heap.size < w4.heap.size := by omega
            have m4_b : w2.heap.size < w4.heap.size + 1 := by omega
            have c4_c_0 : w4.cell? ⟨w3.heap.size, 0, none⟩ = some (.int .i64 cb1) := cell_keep hb4 (by go_simp)
            have c4_c_1 : w4.cell? ⟨w3.heap.size, 1, none⟩ = some (.int .i64 cr.1) := cell_keep hb4 (by go_simp)
            have c4_c_2 : w4.cell? ⟨w3.heap.size, 2, none⟩ = some (.int .i64 cr.2) := cell_keep hb4 (by go_simp)
            have l4_c : w3.heap.size < w4.heap.size := by omega
            have m4_c : w3.heap.size < w4.heap.size + 1 := by omega
            have HT4 := Lib.hid (HT3.out.below bb4)
            have HL4 := Lib.hid (HL3.out.below bb4)
            have HM4 := Lib.hid (HM3.out.below bb4)
            have HA4 := Lib.hid (HA3.out.below bb4)
            have HB4 := Lib.hid (HB3.out.below bb4)
            have BE4 := Lib.hid be4
            clear be4 bb4 hb4 BE3 c3_a_0 c3_a_1 c3_a_2 l3_a m3_a c3_b_0 c3_b_1 c3_b_2 l3_b m3_b HT3 HL3 HM3 HA3 HB3
            go_wp2_with fail
            go_ret
            exact ⟨rfl, HBWR.out.trans ((show Below wr.heap.size wr _ from (by have q := BE4.out; repeat (first | exact q | refine Below.setCell ?_ (by first | (simp; done) | omega | (simp; omega)) _ | refine Below.alloc ?_ (by first | (simp; done) | omega | (simp; omega)) _ | refine below_drewN ?_ _ | refine Below.drew ?_))).mono HBWR.out.size)⟩
        subst hf0
        by_cases hh0 : h = 0
        · subst hh0
          obtain ⟨rfl, rfl⟩ := HREV.out rfl rfl
          have HSS := Lib.hid (HSPL.out rfl rfl rfl)
          go_wp2_with fail
          refine (sum_any p q cap capl us l tt _ (HT0.out.below (by repeat (first | exact Below.refl _ _ | assumption | refine below_drewN ?_ _ | refine Below.setCell ?_ (by first | (simp; done) | (simp; omega)) _ | refine Below.alloc ?_ (by first | (simp; done) | (simp; omega) | omega) _ | refine Below.drew ?_ | refine Below.trans ?_ (Below.mono (by assumption) (by first | (simp; done) | (simp; omega) | omega))))) hcap (HL0.out.below (by repeat (first | exact Below.refl _ _ | assumption | refine below_drewN ?_ _ | refine Below.setCell ?_ (by first | (simp; done) | (simp; omega)) _ | refine Below.alloc ?_ (by first | (simp; done) | (simp; omega) | omega) _ | refine Below.drew ?_ | refine Below.trans ?_ (Below.mono (by assumption) (by first | (simp; done) | (simp; omega) | omega))))) (by omega)).mono ?_
          rintro e w1 ⟨rfl, hb1⟩
          rw [HSA.out]
          simp only [RA]
          have hz1 := hb1.size
          (try simp at hz1)
          have bb1 : Below wr.heap.size wr w1 := (by repeat (first | exact Below.refl _ _ | assumption | refine below_drewN ?_ _ | refine Below.setCell ?_ (by first | (simp; done) | (simp; omega)) _ | refine Below.alloc ?_ (by first | (simp; done) | (simp; omega) | omega) _ | refine Below.drew ?_ | refine Below.trans ?_ (Below.mono (by assumption) (by first | (simp; done) | (simp; omega) | omega))))
          have be1 : Below wr.heap.size wr w1 := bb1
          have HT1 := Lib.hid (HT0.out.below bb1)
          have HL1 := Lib.hid (HL0.out.below bb1)
          have HM1 := Lib.hid (HM0.out.below bb1)
          have HA1 := Lib.hid (HA0.out.below bb1)
          have HB1 := Lib.hid (HB0.out.below bb1)
          have BE1 := Lib.hid be1
          clear be1 bb1 hb1 HT0 HL0 HM0 HA0 HB0
          go_wp2_with fail
          refine (sum_any p r cap capm us m tt _ (HT1.out.below (by repeat (first | exact Below.refl _ _ | assumption | refine below_drewN ?_ _ | refine Below.setCell ?_ (by first | (simp; done) | (simp; omega)) _ | refine Below.alloc ?_ (by first | (simp; done) | (simp; omega) | omega) _ | refine Below.drew ?_ | refine Below.trans ?_ (Below.mono (by assumption) (by first | (simp; done) | (simp; omega) | omega))))) hcap (HM1.out.below (by repeat (first | exact Below.refl _ _ | assumption | refine below_drewN ?_ _ | refine Below.setCell ?_ (by first | (simp; done) | (simp; omega)) _ | refine Below.alloc ?_ (by first | (simp; done) | (simp; omega) | omega) _ | refine Below.drew ?_ | refine Below.trans ?_ (Below.mono (by assumption) (by first | (simp; done) | (simp; omega) | omega))))) (by omega)).mono ?_
          rintro e w2 ⟨rfl, hb2⟩
          rw [HSB.out]
          simp only [RA]
          have hz2 := hb2.size
          (try simp at hz2)
          have bb2 : Below w1.heap.size w1 w2 := (by repeat (first | exact Below.refl _ _ | assumption | refine below_drewN ?_ _ | refine Below.setCell ?_ (by first | (simp; done) | (simp; omega)) _ | refine Below.alloc ?_ (by first | (simp; done) | (simp; omega) | omega) _ | refine Below.drew ?_ | refine Below.trans ?_ (Below.mono (by assumption) (by first | (simp; done) | (simp; omega) | omega))))
          have be2 : Below wr.heap.size wr w2 := BE1.out.trans (bb2.mono BE1.out.size)
          have c2_a_0 : w2.cell? ⟨w1.heap.size, 0, none⟩ = some (.int .i64 ab) := cell_keep hb2 (by go_simp)
          have c2_a_1 : w2.cell? ⟨w1.heap.size, 1, none⟩ = some (.int .i64 ar.1) := cell_keep hb2 (by go_simp)
          have c2_a_2 : w2.cell? ⟨w1.heap.size, 2, none⟩ = some (.int .i64 ar.2) := cell_keep hb2 (by go_simp)
          have l2_a : w1.heap.size < w2.heap.size := by omega
          have m2_a : w1.heap.size < w2.heap.size + 1 := by omega
          have HT2 := Lib.hid (HT1.out.below bb2)
          have HL2 := Lib.hid (HL1.out.below bb2)
          have HM2 := Lib.hid (HM1.out.below bb2)
          have HA2 := Lib.hid (HA1.out.below bb2)
          have HB2 := Lib.hid (HB1.out.below bb2)
          have BE2 := Lib.hid be2
          clear be2 bb2 hb2 BE1 HT1 HL1 HM1 HA1 HB1
          go_wp2_with fail
          refine (sum_any p qa cap ca us al tt _ (HT2.out.below (by repeat (first | exact Below.refl _ _ | assumption | refine below_drewN ?_ _ | refine Below.setCell ?_ (by first | (simp; done) | (simp; omega)) _ | refine Below.alloc ?_ (by first | (simp; done) | (simp; omega) | omega) _ | refine Below.drew ?_ | refine Below.trans ?_ (Below.mono (by assumption) (by first | (simp; done) | (simp; omega) | omega))))) hcap (HA2.out.below (by repeat (first | exact Below.refl _ _ | assumption | refine below_drewN ?_ _ | refine Below.setCell ?_ (by first | (simp; done) | (simp; omega)) _ | refine Below.alloc ?_ (by first | (simp; done) | (simp; omega) | omega) _ | refine Below.drew ?_ | refine Below.trans ?_ (Below.mono (by assumption) (by first | (simp; done) | (simp; omega) | omega))))) (by omega)).mono ?_
          rintro e w3 ⟨rfl, hb3⟩
          rw [HSC.out]
          simp only [RA]
          have hz3 := hb3.size
          (try simp at hz3)
          have bb3 : Below w2.heap.size w2 w3 := (by repeat (first | exact Below.refl _ _ | assumption | refine below_drewN ?_ _ | refine Below.setCell ?_ (by first | (simp; done) | (simp; omega)) _ | refine Below.alloc ?_ (by first | (simp; done) | (simp; omega) | omega) _ | refine Below.drew ?_ | refine Below.trans ?_ (Below.mono (by assumption) (by first | (simp; done) | (simp; omega) | omega))))
          have be3 : Below wr.heap.size wr w3 := BE2.out.trans (bb3.mono BE2.out.size)
          have c3_a_0 : w3.cell? ⟨w1.heap.size, 0, none⟩ = some (.int .i64 ab) := cell_keep bb3 c2_a_0
          have c3_a_1 : w3.cell? ⟨w1.heap.size, 1, none⟩ = some (.int .i64 ar.1) := cell_keep bb3 c2_a_1
          have c3_a_2 : w3.cell? ⟨w1.heap.size, 2, none⟩ = some (.int .i64 ar.2) := cell_keep bb3 c2_a_2
          have l3_a : w1.heap.size < w3.heap.size := by omega
          have m3_a : w1.heap.size < w3.heap.size + 1 := by omega
          have c3_b_0 : w3.cell? ⟨w2.heap.size, 0, none⟩ = some (.int .i64 bb) := cell_keep hb3 (by go_simp)
          have c3_b_1 : w3.cell? ⟨w2.heap.size, 1, none⟩ = some (.int .i64 br.1) := cell_keep hb3 (by go_simp)
          have c3_b_2 : w3.cell? ⟨w2.heap.size, 2, none⟩ = some (.int .i64 br.2) := cell_keep hb3 (by go_simp)
          have l3_b : w2.heap.size < w3.heap.size := by omega
          have m3_b : w2.heap.size < w3.heap.size + 1 := by omega
          have HT3 := Lib.hid (HT2.out.below bb3)
          have HL3 := Lib.hid (HL2.out.below bb3)
          have HM3 := Lib.hid (HM2.out.below bb3)
          have HA3 := Lib.hid (HA2.out.below bb3)
          have HB3 := Lib.hid (HB2.out.below bb3)
          have BE3 := Lib.hid be3
          clear be3 bb3 hb3 BE2 c2_a_0 c2_a_1 c2_a_2 l2_a m2_a HT2 HL2 HM2 HA2 HB2
          go_wp2_with fail
          refine (sum_any p qb cap cbk us bk tt _ (HT3.out.below (by repeat (first | exact Below.refl _ _ | assumption | refine below_drewN ?_ _ | refine Below.setCell ?_ (by first | (simp; done) | (simp; omega)) _ | refine Below.alloc ?_ (by first | (simp; done) | (simp; omega) | omega) _ | refine Below.drew ?_ | refine Below.trans ?_ (Below.mono (by assumption) (by first | (simp; done) | (simp; omega) | omega))))) hcap (HB3.out.below (by repeat (first | exact Below.refl _ _ | assumption | refine below_drewN ?_ _ | refine Below.setCell ?_ (by first | (simp; done) | (simp; omega)) _ | refine Below.alloc ?_ (by first | (simp; done) | (simp; omega) | omega) _ | refine Below.drew ?_ | refine Below.trans ?_ (Below.mono (by assumption) (by first | (simp; done) | (simp; omega) | omega))))) (by omega)).mono ?_
          rintro e w4 ⟨rfl, hb4⟩
          rw [HSD.out]
          simp only [RA]
          have hz4 := hb4.size
          (try simp at hz4)
          have bb4 : Below w3.heap.size w3 w4 := (by repeat (first | exact Below.refl _ _ | assumption | refine below_drewN ?_ _ | refine Below.setCell ?_ (by first | (simp; done) | (simp; omega)) _ | refine Below.alloc ?_ (by first | (simp; done) | (simp; omega) | omega) _ | refine Below.drew ?_ | refine Below.trans ?_ (Below.mono (by assumption) (by first | (simp; done) | (simp; omega) | omega))))
          have be4 : Below wr.heap.size wr w4 := BE3.out.trans (bb4.mono BE3.out.size)
          have c4_a_0 : w4.cell? ⟨w1.heap.size, 0, none⟩ = some (.int .i64 ab) := cell_keep bb4 c3_a_0
          have c4_a_1 : w4.cell? ⟨w1.heap.size, 1, none⟩ = some (.int .i64 ar.1) := cell_keep bb4 c3_a_1
          have c4_a_2 : w4.cell? ⟨w1.heap.size, 2, none⟩ = some (.int .i64 ar.2) := cell_keep bb4 c3_a_2
          have l4_a : w1.heap.size < w4.heap.size := by omega
          have m4_a : w1.heap.size < w4.heap.size + 1 := by omega
          have c4_b_0 : w4.cell? ⟨w2.heap.size, 0, none⟩ = some (.int .i64 bb) := cell_keep bb4 c3_b_0
          have c4_b_1 : w4.cell? ⟨w2.heap.size, 1, none⟩ = some (.int .i64 br.1) := cell_keep bb4 c3_b_1
          have c4_b_2 : w4.cell? ⟨w2.heap.size, 2, none⟩ = some (.int .i64 br.2) := cell_keep bb4 c3_b_2
          have l4_b : w2.heap.size < w4.heap.size := by omega
          have m4_b : w2.heap.size < w4.heap.size + 1 := by omega
          have c4_c_0 : w4.cell? ⟨w3.heap.size, 0, none⟩ = some (.int .i64 cb1) := cell_keep hb4 (by go_simp)
          have c4_c_1 : w4.cell? ⟨w3.heap.size, 1, none⟩ = some (.int .i64 cr.1) := cell_keep hb4 (by go_simp)
          have c4_c_2 : w4.cell? ⟨w3.heap.size, 2, none⟩ = some (.int .i64 cr.2) := cell_keep hb4 (by go_simp)
          have l4_c : w3.heap.size < w4.heap.size := by omega
          have m4_c : w3.heap.size < w4.heap.size + 1 := by omega
          have HT4 := Lib.hid (HT3.out.below bb4)
          have HL4 := Lib.hid (HL3.out.below bb4)
          have HM4 := Lib.hid (HM3.out.below bb4)
          have HA4 := Lib.hid (HA3.out.below bb4)
          have HB4 := Lib.hid (HB3.out.below bb4)
          have BE4 := Lib.hid be4
          clear be4 bb4 hb4 BE3 c3_a_0 c3_a_1 c3_a_2 l3_a m3_a c3_b_0 c3_b_1 c3_b_2 l3_b m3_b HT3 HL3 HM3 HA3 HB3
          go_wp2_with fail
          refine (sum_any p (some ⟨w4.heap.size + 1, 0, none⟩) cap 2 us [(ab, ar), (bb, br)] tt _ (HT4.out.below (by repeat (first | exact Below.refl _ _ | assumption | refine below_drewN ?_ _ | refine Below.setCell ?_ (by first | (simp; done) | (simp; omega)) _ | refine Below.alloc ?_ (by first | (simp; done) | (simp; omega) | omega) _ | refine Below.drew ?_ | refine Below.trans ?_ (Below.mono (by assumption) (by first | (simp; done) | (simp; omega) | omega))))) hcap (amts2 HR1.out HR2.out ⟨by go_simp, by go_simp, by go_simp⟩ ⟨by go_simp, by go_simp, by go_simp⟩) (by simp)).mono ?_
          rintro e w5 ⟨rfl, hb5⟩
          rw [HSS.out]
          simp only [RA]
          have hz5 := hb5.size
          (try simp at hz5)
          have bb5 : Below w4.heap.size w4 w5 := (by repeat (first | exact Below.refl _ _ | assumption | refine below_drewN ?_ _ | refine Below.setCell ?_ (by first | (simp; done) | (simp; omega)) _ | refine Below.alloc ?_ (by first | (simp; done) | (simp; omega) | omega) _ | refine Below.drew ?_ | refine Below.trans ?_ (Below.mono (by assumption) (by first | (simp; done) | (simp; omega) | omega))))
          have be5 : Below wr.heap.size wr w5 := BE4.out.trans (bb5.mono BE4.out.size)
          have c5_a_0 : w5.cell? ⟨w1.heap.size, 0, none⟩ = some (.int .i64 ab) := cell_keep bb5 c4_a_0
          have c5_a_1 : w5.cell? ⟨w1.heap.size, 1, none⟩ = some (.int .i64 ar.1) := cell_keep bb5 c4_a_1
          have c5_a_2 : w5.cell? ⟨w1.heap.size, 2, none⟩ = some (.int .i64 ar.2) := cell_keep bb5 c4_a_2
          have l5_a : w1.heap.size < w5.heap.size := by omega
          have m5_a : w1.heap.size < w5.heap.size + 1 := by omega
          have c5_b_0 : w5.cell? ⟨w2.heap.size, 0, none⟩ = some (.int .i64 bb) := cell_keep bb5 c4_b_0
          have c5_b_1 : w5.cell? ⟨w2.heap.size, 1, none⟩ = some (.int .i64 br.1) := cell_keep bb5 c4_b_1
          have c5_b_2 : w5.cell? ⟨w2.heap.size, 2, none⟩ = some (.int .i64 br.2) := cell_keep bb5 c4_b_2
          have l5_b : w2.heap.size < w5.heap.size := by omega
          have m5_b : w2.heap.size < w5.heap.size + 1 := by omega
          have c5_c_0 : w5.cell? ⟨w3.heap.size, 0, none⟩ = some (.int .i64 cb1) := cell_keep bb5 c4_c_0
          have c5_c_1 : w5.cell? ⟨w3.heap.size, 1, none⟩ = some (.int .i64 cr.1) := cell_keep bb5 c4_c_1
          have c5_c_2 : w5.cell? ⟨w3.heap.size, 2, none⟩ = some (.int .i64 cr.2) := cell_keep bb5 c4_c_2
          have l5_c : w3.heap.size < w5.heap.size := by omega
          have m5_c : w3.heap.size < w5.heap.size + 1 := by omega
          have c5_d_0 : w5.cell? ⟨w4.heap.size, 0, none⟩ = some (.int .i64 cb1) := cell_keep hb5 (by go_simp)
          have c5_d_1 : w5.cell? ⟨w4.heap.size, 1, none⟩ = some (.int .i64 cr.1) := cell_keep hb5 (by go_simp)
          have c5_d_2 : w5.cell? ⟨w4.heap.size, 2, none⟩ = some (.int .i64 cr.2) := cell_keep hb5 (by go_simp)
          have l5_d : w4.heap.size < w5.heap.size := by omega
          have m5_d : w4.heap.size < w5.heap.size + 1 := by omega
          have HT5 := Lib.hid (HT4.out.below bb5)
          have HL5 := Lib.hid (HL4.out.below bb5)
          have HM5 := Lib.hid (HM4.out.below bb5)
          have HA5 := Lib.hid (HA4.out.below bb5)
          have HB5 := Lib.hid (HB4.out.below bb5)
          have BE5 := Lib.hid be5
          clear be5 bb5 hb5 BE4 c4_a_0 c4_a_1 c4_a_2 l4_a m4_a c4_b_0 c4_b_1 c4_b_2 l4_b m4_b c4_c_0 c4_c_1 c4_c_2 l4_c m4_c HT4 HL4 HM4 HA4 HB4
          go_wp2_with fail
          go_ret
          exact ⟨rfl, HBWR.out.trans ((show Below wr.heap.size wr _ from (by have q := BE5.out; repeat (first | exact q | refine Below.setCell ?_ (by first | (simp; done) | omega | (simp; omega)) _ | refine Below.alloc ?_ (by first | (simp; done) | omega | (simp; omega)) _ | refine below_drewN ?_ _ | refine Below.drew ?_))).mono HBWR.out.size)⟩
        · have hhb : (h != 0) = true := bne_iff_ne.2 hh0
          have hhc : (h == 0) = false := beq_eq_false_iff_ne.2 hh0
          clear hh0
          have HSS := Lib.hid (HSPL.out rfl rfl rfl)
          go_wp2_with fail
          refine (sum_any p q cap capl us l tt _ (HT0.out.below (by repeat (first | exact Below.refl _ _ | assumption | refine below_drewN ?_ _ | refine Below.setCell ?_ (by first | (simp; done) | (simp; omega)) _ | refine Below.alloc ?_ (by first | (simp; done) | (simp; omega) | omega) _ | refine Below.drew ?_ | refine Below.trans ?_ (Below.mono (by assumption) (by first | (simp; done) | (simp; omega) | omega))))) hcap (HL0.out.below (by repeat (first | exact Below.refl _ _ | assumption | refine below_drewN ?_ _ | refine Below.setCell ?_ (by first | (simp; done) | (simp; omega)) _ | refine Below.alloc ?_ (by first | (simp; done) | (simp; omega) | omega) _ | refine Below.drew ?_ | refine Below.trans ?_ (Below.mono (by assumption) (by first | (simp; done) | (simp; omega) | omega))))) (by omega)).mono ?_
          rintro e w1 ⟨rfl, hb1⟩
          rw [HSA.out]
          simp only [RA]
          have hz1 := hb1.size
          (try simp at hz1)
          have bb1 : Below wr.heap.size wr w1 := (by repeat (first | exact Below.refl _ _ | assumption | refine below_drewN ?_ _ | refine Below.setCell ?_ (by first | (simp; done) | (simp; omega)) _ | refine Below.alloc ?_ (by first | (simp; done) | (simp; omega) | omega) _ | refine Below.drew ?_ | refine Below.trans ?_ (Below.mono (by assumption) (by first | (simp; done) | (simp; omega) | omega))))
          have be1 : Below wr.heap.size wr w1 := bb1
          have HT1 := Lib.hid (HT0.out.below bb1)
          have HL1 := Lib.hid (HL0.out.below bb1)
          have HM1 := Lib.hid (HM0.out.below bb1)
          have HA1 := Lib.hid (HA0.out.below bb1)
          have HB1 := Lib.hid (HB0.out.below bb1)
          have BE1 := Lib.hid be1
          clear be1 bb1 hb1 HT0 HL0 HM0 HA0 HB0
          go_wp2_with fail
          refine (sum_any p r cap capm us m tt _ (HT1.out.below (by repeat (first | exact Below.refl _ _ | assumption | refine below_drewN ?_ _ | refine Below.setCell ?_ (by first | (simp; done) | (simp; omega)) _ | refine Below.alloc ?_ (by first | (simp; done) | (simp; omega) | omega) _ | refine Below.drew ?_ | refine Below.trans ?_ (Below.mono (by assumption) (by first | (simp; done) | (simp; omega) | omega))))) hcap (HM1.out.below (by repeat (first | exact Below.refl _ _ | assumption | refine below_drewN ?_ _ | refine Below.setCell ?_ (by first | (simp; done) | (simp; omega)) _ | refine Below.alloc ?_ (by first | (simp; done) | (simp; omega) | omega) _ | refine Below.drew ?_ | refine Below.trans ?_ (Below.mono (by assumption) (by first | (simp; done) | (simp; omega) | omega))))) (by omega)).mono ?_
          rintro e w2 ⟨rfl, hb2⟩
          rw [HSB.out]
          simp only [RA]
          have hz2 := hb2.size
          (try simp at hz2)
          have bb2 : Below w1.heap.size w1 w2 := (by repeat (first | exact Below.refl _ _ | assumption | refine below_drewN ?_ _ | refine Below.setCell ?_ (by first | (simp; done) | (simp; omega)) _ | refine Below.alloc ?_ (by first | (simp; done) | (simp; omega) | omega) _ | refine Below.drew ?_ | refine Below.trans ?_ (Below.mono (by assumption) (by first | (simp; done) | (simp; omega) | omega))))
          have be2 : Below wr.heap.size wr w2 := BE1.out.trans (bb2.mono BE1.out.size)
          have c2_a_0 : w2.cell? ⟨w1.heap.size, 0, none⟩ = some (.int .i64 ab) := cell_keep hb2 (by go_simp)
          have c2_a_1 : w2.cell? ⟨w1.heap.size, 1, none⟩ = some (.int .i64 ar.1) := cell_keep hb2 (by go_simp)
          have c2_a_2 : w2.cell? ⟨w1.heap.size, 2, none⟩ = some (.int .i64 ar.2) := cell_keep hb2 (by go_simp)
          have l2_a : w1.heap.size < w2.heap.size := by omega
          have m2_a : w1.heap.size < w2.heap.size + 1 := by omega
          have HT2 := Lib.hid (HT1.out.below bb2)
          have HL2 := Lib.hid (HL1.out.below bb2)
          have HM2 := Lib.hid (HM1.out.below bb2)
          have HA2 := Lib.hid (HA1.out.below bb2)
          have HB2 := Lib.hid (HB1.out.below bb2)
          have BE2 := Lib.hid be2
          clear be2 bb2 hb2 BE1 HT1 HL1 HM1 HA1 HB1
          go_wp2_with fail
          refine (sum_any p qa cap ca us al tt _ (HT2.out.below (by repeat (first | exact Below.refl _ _ | assumption | refine below_drewN ?_ _ | refine Below.setCell ?_ (by first | (simp; done) | (simp; omega)) _ | refine Below.alloc ?_ (by first | (simp; done) | (simp; omega) | omega) _ | refine Below.drew ?_ | refine Below.trans ?_ (Below.mono (by assumption) (by first | (simp; done) | (simp; omega) | omega))))) hcap (HA2.out.below (by repeat (first | exact Below.refl _ _ | assumption | refine below_drewN ?_ _ | refine Below.setCell ?_ (by first | (simp; done) | (simp; omega)) _ | refine Below.alloc ?_ (by first | (simp; done) | (simp; omega) | omega) _ | refine Below.drew ?_ | refine Below.trans ?_ (Below.mono (by assumption) (by first | (simp; done) | (simp; omega) | omega))))) (by omega)).mono ?_
          rintro e w3 ⟨rfl, hb3⟩
          rw [HSC.out]
          simp only [RA]
          have hz3 := hb3.size
          (try simp at hz3)
          have bb3 : Below w2.heap.size w2 w3 := (by repeat (first | exact Below.refl _ _ | assumption | refine below_drewN ?_ _ | refine Below.setCell ?_ (by first | (simp; done) | (simp; omega)) _ | refine Below.alloc ?_ (by first | (simp; done) | (simp; omega) | omega) _ | refine Below.drew ?_ | refine Below.trans ?_ (Below.mono (by assumption) (by first | (simp; done) | (simp; omega) | omega))))
          have be3 : Below wr.heap.size wr w3 := BE2.out.trans (bb3.mono BE2.out.size)
          have c3_a_0 : w3.cell? ⟨w1.heap.size, 0, none⟩ = some (.int .i64 ab) := cell_keep bb3 c2_a_0
          have c3_a_1 : w3.cell? ⟨w1.heap.size, 1, none⟩ = some (.int .i64 ar.1) := cell_keep bb3 c2_a_1
          have c3_a_2 : w3.cell? ⟨w1.heap.size, 2, none⟩ = some (.int .i64 ar.2) := cell_keep bb3 c2_a_2
          have l3_a : w1.heap.size < w3.heap.size := by omega
          have m3_a : w1.heap.size < w3.heap.size + 1 := by omega
          have c3_b_0 : w3.cell? ⟨w2.heap.size, 0, none⟩ = some (.int .i64 bb) := cell_keep hb3 (by go_simp)
          have c3_b_1 : w3.cell? ⟨w2.heap.size, 1, none⟩ = some (.int .i64 br.1) := cell_keep hb3 (by go_simp)
          have c3_b_2 : w3.cell? ⟨w2.heap.size, 2, none⟩ = some (.int .i64 br.2) := cell_keep hb3 (by go_simp)
          have l3_b : w2.heap.size < w3.heap.size := by omega
          have m3_b : w2.heap.size < w3.heap.size + 1 := by omega
          have HT3 := Lib.hid (HT2.out.below bb3)
          have HL3 := Lib.hid (HL2.out.below bb3)
          have HM3 := Lib.hid (HM2.out.below bb3)
          have HA3 := Lib.hid (HA2.out.below bb3)
          have HB3 := Lib.hid (HB2.out.below bb3)
          have BE3 := Lib.hid be3
          clear be3 bb3 hb3 BE2 c2_a_0 c2_a_1 c2_a_2 l2_a m2_a HT2 HL2 HM2 HA2 HB2
          go_wp2_with fail
          refine (sum_any p qb cap cbk us bk tt _ (HT3.out.below (by repeat (first | exact Below.refl _ _ | assumption | refine below_drewN ?_ _ | refine Below.setCell ?_ (by first | (simp; done) | (simp; omega)) _ | refine Below.alloc ?_ (by first | (simp; done) | (simp; omega) | omega) _ | refine Below.drew ?_ | refine Below.trans ?_ (Below.mono (by assumption) (by first | (simp; done) | (simp; omega) | omega))))) hcap (HB3.out.below (by repeat (first | exact Below.refl _ _ | assumption | refine below_drewN ?_ _ | refine Below.setCell ?_ (by first | (simp; done) | (simp; omega)) _ | refine Below.alloc ?_ (by first | (simp; done) | (simp; omega) | omega) _ | refine Below.drew ?_ | refine Below.trans ?_ (Below.mono (by assumption) (by first | (simp; done) | (simp; omega) | omega))))) (by omega)).mono ?_
          rintro e w4 ⟨rfl, hb4⟩
          rw [HSD.out]
          simp only [RA]
          have hz4 := hb4.size
          (try simp at hz4)
          have bb4 : Below w3.heap.size w3 w4 := (by repeat (first | exact Below.refl _ _ | assumption | refine below_drewN ?_ _ | refine Below.setCell ?_ (by first | (simp; done) | (simp; omega)) _ | refine Below.alloc ?_ (by first | (simp; done) | (simp; omega) | omega) _ | refine Below.drew ?_ | refine Below.trans ?_ (Below.mono (by assumption) (by first | (simp; done) | (simp; omega) | omega))))
          have be4 : Below wr.heap.size wr w4 := BE3.out.trans (bb4.mono BE3.out.size)
          have c4_a_0 : w4.cell? ⟨w1.heap.size, 0, none⟩ = some (.int .i64 ab) := cell_keep bb4 c3_a_0
          have c4_a_1 : w4.cell? ⟨w1.heap.size, 1, none⟩ = some (.int .i64 ar.1) := cell_keep bb4 c3_a_1
          have c4_a_2 : w4.cell? ⟨w1.heap.size, 2, none⟩ = some (.int .i64 ar.2) := cell_keep bb4 c3_a_2
          have l4_a : w1.heap.size < w4.heap.size := by omega
          have m4_a : w1.heap.size < w4.heap.size + 1 := by omega
          have c4_b_0 : w4.cell? ⟨w2.heap.size, 0, none⟩ = some (.int .i64 bb) := cell_keep bb4 c3_b_0
          have c4_b_1 : w4.cell? ⟨w2.heap.size, 1, none⟩ = some (.int .i64 br.1) := cell_keep bb4 c3_b_1
          have c4_b_2 : w4.cell? ⟨w2.heap.size, 2, none⟩ = some (.int .i64 br.2) := cell_keep bb4 c3_b_2
          have l4_b : w2.heap.size < w4.heap.size := by omega
          have m4_b : w2.heap.size < w4.heap.size + 1 := by omega
          have c4_c_0 : w4.cell? ⟨w3.heap.size, 0, none⟩ = some (.int .i64 cb1) := cell_keep hb4 (by go_simp)
          have c4_c_1 : w4.cell? ⟨w3.heap.size, 1, none⟩ = some (.int .i64 cr.1) := cell_keep hb4 (by go_simp)
          have c4_c_2 : w4.cell? ⟨w3.heap.size, 2, none⟩ = some (.int .i64 cr.2) := cell_keep hb4 (by go_simp)
          have l4_c : w3.heap.size < w4.heap.size := by omega
          have m4_c : w3.heap.size < w4.heap.size + 1 := by omega
          have HT4 := Lib.hid (HT3.out.below bb4)
          have HL4 := Lib.hid (HL3.out.below bb4)
          have HM4 := Lib.hid (HM3.out.below bb4)
          have HA4 := Lib.hid (HA3.out.below bb4)
          have HB4 := Lib.hid (HB3.out.below bb4)
          have BE4 := Lib.hid be4
          clear be4 bb4 hb4 BE3 c3_a_0 c3_a_1 c3_a_2 l3_a m3_a c3_b_0 c3_b_1 c3_b_2 l3_b m3_b HT3 HL3 HM3 HA3 HB3
          go_wp2_with fail
          refine (sum_any p (some ⟨w4.heap.size + 1, 0, none⟩) cap 2 us [(ab, ar), (bb, br)] tt _ (HT4.out.below (by repeat (first | exact Below.refl _ _ | assumption | refine below_drewN ?_ _ | refine Below.setCell ?_ (by first | (simp; done) | (simp; omega)) _ | refine Below.alloc ?_ (by first | (simp; done) | (simp; omega) | omega) _ | refine Below.drew ?_ | refine Below.trans ?_ (Below.mono (by assumption) (by first | (simp; done) | (simp; omega) | omega))))) hcap (amts2 HR1.out HR2.out ⟨by go_simp, by go_simp, by go_simp⟩ ⟨by go_simp, by go_simp, by go_simp⟩) (by simp)).mono ?_
          rintro e w5 ⟨rfl, hb5⟩
          rw [HSS.out]
          simp only [RA]
          have hz5 := hb5.size
          (try simp at hz5)
          have bb5 : Below w4.heap.size w4 w5 := (by repeat (first | exact Below.refl _ _ | assumption | refine below_drewN ?_ _ | refine Below.setCell ?_ (by first | (simp; done) | (simp; omega)) _ | refine Below.alloc ?_ (by first | (simp; done) | (simp; omega) | omega) _ | refine Below.drew ?_ | refine Below.trans ?_ (Below.mono (by assumption) (by first | (simp; done) | (simp; omega) | omega))))
          have be5 : Below wr.heap.size wr w5 := BE4.out.trans (bb5.mono BE4.out.size)
          have c5_a_0 : w5.cell? ⟨w1.heap.size, 0, none⟩ = some (.int .i64 ab) := cell_keep bb5 c4_a_0
          have c5_a_1 : w5.cell? ⟨w1.heap.size, 1, none⟩ = some (.int .i64 ar.1) := cell_keep bb5 c4_a_1
          have c5_a_2 : w5.cell? ⟨w1.heap.size, 2, none⟩ = some (.int .i64 ar.2) := cell_keep bb5 c4_a_2
          have l5_a : w1.heap.size < w5.heap.size := by omega
          have m5_a : w1.heap.size < w5.heap.size + 1 := by omega
          have c5_b_0 : w5.cell? ⟨w2.heap.size, 0, none⟩ = some (.int .i64 bb) := cell_keep bb5 c4_b_0
          have c5_b_1 : w5.cell? ⟨w2.heap.size, 1, none⟩ = some (.int .i64 br.1) := cell_keep bb5 c4_b_1
          have c5_b_2 : w5.cell? ⟨w2.heap.size, 2, none⟩ = some (.int .i64 br.2) := cell_keep bb5 c4_b_2
          have l5_b : w2.heap.size < w5.heap.size := by omega
          have m5_b : w2.heap.size < w5.heap.size + 1 := by omega
          have c5_c_0 : w5.cell? ⟨w3.heap.size, 0, none⟩ = some (.int .i64 cb1) := cell_keep bb5 c4_c_0
          have c5_c_1 : w5.cell? ⟨w3.heap.size, 1, none⟩ = some (.int .i64 cr.1) := cell_keep bb5 c4_c_1
          have c5_c_2 : w5.cell? ⟨w3.heap.size, 2, none⟩ = some (.int .i64 cr.2) := cell_keep bb5 c4_c_2
          have l5_c : w3.heap.size < w5.heap.size := by omega
          have m5_c : w3.heap.size < w5.heap.size + 1 := by omega
          have c5_d_0 : w5.cell? ⟨w4.heap.size, 0, none⟩ = some (.int .i64 db) := cell_keep hb5 (by go_simp)
          have c5_d_1 : w5.cell? ⟨w4.heap.size, 1, none⟩ = some (.int .i64 dr.1) := cell_keep hb5 (by go_simp)
          have c5_d_2 : w5.cell? ⟨w4.heap.size, 2, none⟩ = some (.int .i64 dr.2) := cell_keep hb5 (by go_simp)
          have l5_d : w4.heap.size < w5.heap.size := by omega
          have m5_d : w4.heap.size < w5.heap.size + 1 := by omega
          have HT5 := Lib.hid (HT4.out.below bb5)
          have HL5 := Lib.hid (HL4.out.below bb5)
          have HM5 := Lib.hid (HM4.out.below bb5)
          have HA5 := Lib.hid (HA4.out.below bb5)
          have HB5 := Lib.hid (HB4.out.below bb5)
          have BE5 := Lib.hid be5
          clear be5 bb5 hb5 BE4 c4_a_0 c4_a_1 c4_a_2 l4_a m4_a c4_b_0 c4_b_1 c4_b_2 l4_b m4_b c4_c_0 c4_c_1 c4_c_2 l4_c m4_c HT4 HL4 HM4 HA4 HB4
          go_wp2_with fail
          go_ret
          exact ⟨rfl, HBWR.out.trans ((show Below wr.heap.size wr _ from (by have q := BE5.out; repeat (first | exact q | refine Below.setCell ?_ (by first | (simp; done) | omega | (simp; omega)) _ | refine Below.alloc ?_ (by first | (simp; done) | omega | (simp; omega)) _ | refine below_drewN ?_ _ | refine Below.drew ?_))).mono HBWR.out.size)⟩
end Go.Proofs.Ytfddfjokpaepfaa

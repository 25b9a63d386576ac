/- QuantityBaskets: the walk of the law behind its first test. -/
import Derived.Test.YtfddfjokpaepfaaQlH
import Derived.Test.YtfddfjokpaepfaaQlE
namespace Go.Proofs.Ytfddfjokpaepfaa
open Go.RowKit

theorem bask_64 {us : List Qn.Un} {l : List Qn.Am} {o : List Qn.R} (h : Qn.basketS us l = (some o, 0)) : o.length = us.length ∧ ∀ r ∈ o, Qn.RO r := by
  obtain ⟨o', eo, h1, h2, h3⟩ := Qn.basket_ok h
  cases eo
  have q := Qn.bask_zero (Qn.bvf_ok h1 h2) h3
  refine ⟨q.1, fun r hr => ?_⟩
  obtain ⟨i, hi, rfl⟩ := List.getElem_of_mem hr
  rw [← Qn.getD_get hi]
  exact (q.2 i (by rw [← q.1]; exact hi)).1
theorem rats_nil (w : World) : Rats w none [] := ⟨(fun r hr => by cases hr), .inl rfl⟩
/-- Basket, in one form -/
theorem basket_gen (p q : Option Addr) (cap capl : Nat) (us : List Qn.Un) (l : List Qn.Am) (xs : List Qn.R) (x : Option (List Qn.R)) (c : Int) (w : World) (ht : Tab w p us) (hcap : us.length ≤ cap) (hl : Amts w q l) (hll : l.length ≤ 1000) (hx : Qn.basketS us l = (x, c)) (hxs : xs = x.getD []) :
    Calls Try.prog 21 #[.slice p us.length cap, .slice q l.length capl] w fun e w' => ∃ z, e = .returned (.tuple #[.slice z xs.length xs.length, .int .i64 c]) ∧ Rats w' z xs ∧ Below w.heap.size w w' := by
  refine (basket_any p q cap capl us l w ht hcap hl hll).mono ?_
  rintro e w' ⟨hb, ⟨o, g, hr, rfl, hg, hrow⟩ | ⟨c', hr, hc, rfl⟩⟩
  · rw [hx, Prod.mk.injEq] at hr
    obtain ⟨rfl, rfl⟩ := hr
    obtain rfl : xs = o := hxs
    obtain ⟨hlen, h64⟩ := bask_64 hx
    rw [hlen]
    exact ⟨_, rfl, hrow.rats (fun r hr => ok64 (h64 r hr)), hb⟩
  · rw [hx, Prod.mk.injEq] at hr
    obtain ⟨rfl, rfl⟩ := hr
    subst hxs
    exact ⟨none, rfl, rats_nil w', hb⟩
theorem moved_64 {us : List Qn.Un} {tt : Int} {a : Qn.Am} (h : B64 a.2.1) : B64 (Qn.moveS us tt a).2.1 := by
  unfold Qn.moveS
  split
  · next k => exact conv_64 (us := us) (a := a) (tt := tt) rfl
  · exact h
theorem take_snoc {l : List Qn.Am} {f : Qn.Am → Qn.Am} {k : Nat} {a : Qn.Am} (h : l[k]? = some a) : (l.take (k + 1)).map f = (l.take k).map f ++ [f a] := by
  rw [List.take_add_one, h]
  simp
theorem move_case {us : List Qn.Un} {tt b e : Int} {r : Qn.R} {a : Qn.Am} (h : Qn.convertS us a tt = (b, r, e)) : (e = 0 → Qn.moveS us tt a = (b, r)) ∧ (e ≠ 0 → Qn.moveS us tt a = a) := by
  unfold Qn.moveS
  rw [h]
  exact ⟨fun k => if_pos k, fun k => if_neg k⟩
set_option maxRecDepth 100000 in
set_option maxHeartbeats 3200000 in
theorem baskets_go (p : Option Addr) (cap : Nat) (us : List Qn.Un) (q r : Option Addr) (capl capm : Nat) (l m : List Qn.Am) (tt : Int) (al ml : List Qn.Am) (x y z v : Option (List Qn.R)) (xs ys zs vs : List Qn.R) (e f g h : Int) (w : World) (ht : Tab w p us) (hcap : us.length ≤ cap) (hl : Amts w q l) (hm : Amts w r m) (hs : smallB us l.length = true) (h1 : l.length ≤ 30) (h2 : m.length ≤ 30) (hq0 : q = none → capl = 0) (hr0 : r = none → capm = 0) (hal : al = l ++ m) (hml : ml = al.map (Qn.moveS us tt)) (hsa : Qn.basketS us l = (x, e)) (hsb : Qn.basketS us m = (y, f)) (hsc : Qn.basketS us al = (z, g)) (hsd : Qn.basketS us ml = (v, h)) (hxa : xs = x.getD []) (hxb : ys = y.getD []) (hxc : zs = z.getD []) (hxd : vs = v.getD []) :
    Calls Try.prog 9 #[.slice p us.length cap, .slice q l.length capl, .slice r m.length capm, .int .i64 tt] w fun e w' => e = .returned (.bool true) ∧ Below w.heap.size w w' := by
  have HTW := Lib.hid ht
  have HLW := Lib.hid hl
  have HMW := Lib.hid hm
  have HT0 := Lib.hid ht
  clear ht
  have HL0 := Lib.hid hl
  have HM0 := Lib.hid hm
  clear hl hm
  have HAL := Lib.hid hal
  have H64 := Lib.hid (show ∀ a ∈ al, B64 a.2.1 by rw [hal]; intro a ha; exact (List.mem_append.1 ha).elim (HLW.out.1 a) (HMW.out.1 a))
  have hall : al.length ≤ 60 := by rw [hal, List.length_append]; omega
  have HXA := Lib.hid hxa
  have HXB := Lib.hid hxb
  have HXC := Lib.hid hxc
  have HXD := Lib.hid hxd
  have HSA := Lib.hid hsa
  have HSB := Lib.hid hsb
  have HSC := Lib.hid hsc
  have HSD := Lib.hid hsd
  have HML := Lib.hid hml
  have HSAME := Lib.hid (fun (k1 : g = 0) (k2 : h = 0) => show sameB zs vs = true by
    subst k1 k2
    obtain ⟨o1, e1, _⟩ := Qn.basket_ok hsc
    obtain ⟨o2, e2, _⟩ := Qn.basket_ok hsd
    subst e1 e2
    rw [hxc, hxd]
    exact (sameB_iff _ _).2 (Qn.basket_moved hsc (by rw [← hml]; exact hsd)))
  have HLC := Lib.hid (fun (k1 : g = 0) => show zs.length ≤ 25 by
    subst k1
    obtain ⟨o1, e1, _⟩ := Qn.basket_ok hsc
    subst e1
    have := (bask_64 hsc).1
    have := (small_yes hs).1
    rw [hxc, Option.getD_some]
    omega)
  have HFIN := Lib.hid (fun (k1 : e = 0) (k2 : f = 0) (k3 : g = 0) => show xs.length = us.length ∧ ys.length = us.length ∧ zs.length = us.length ∧ ∀ i, i < us.length → Rt.addS (xs.getD i (0, 1)).1 (xs.getD i (0, 1)).2 (ys.getD i (0, 1)).1 (ys.getD i (0, 1)).2 = ((zs.getD i (0, 1)).1, (zs.getD i (0, 1)).2, 0) ∧ ((us.getD i ⟨[], 0, 0, (0, 0)⟩).base ≠ i → zs.getD i (0, 1) = (0, 1)) by
    subst k1 k2 k3
    obtain ⟨o1, e1, _⟩ := Qn.basket_ok hsa
    obtain ⟨o2, e2, _⟩ := Qn.basket_ok hsb
    obtain ⟨o3, e3, _⟩ := Qn.basket_ok hsc
    subst e1 e2 e3
    subst hxa hxb hxc hal
    exact Qn.basket_sum hsa hsb hsc)
  clear hal hsa hsb hsc hsd hxa hxb hxc hxd hml
  have HS := Lib.hid hs
  clear hs
  go_enter Try.func9, Try.ntmps9
  go_wp2_with fail
  refine (head_any _).mono ?_
  rintro e w1 ⟨rfl, hb1⟩
  have hz1 := hb1.size
  (try simp at hz1)
  have bb1 : Below w.heap.size w w1 := (by repeat (first | exact Below.refl _ _ | assumption | refine below_drewN ?_ _ | refine Below.setCell ?_ (by first | (simp; done) | (simp; omega)) _ | refine Below.alloc ?_ (by first | (simp; done) | (simp; omega) | omega) _ | refine Below.drew ?_ | refine Below.trans ?_ (Below.mono (by assumption) (by first | (simp; done) | (simp; omega) | omega))))
  have be1 : Below w.heap.size w w1 := bb1
  have HT1 := Lib.hid (HT0.out.below bb1)
  have HL1 := Lib.hid (HL0.out.below bb1)
  have HM1 := Lib.hid (HM0.out.below bb1)
  have BE1 := Lib.hid be1
  clear be1 bb1 hb1 HT0 HL0 HM0
  go_wp2_with fail
  refine (small_any p q cap l.length capl us true _ (HT1.out.below (by repeat (first | exact Below.refl _ _ | assumption | refine below_drewN ?_ _ | refine Below.setCell ?_ (by first | (simp; done) | (simp; omega)) _ | refine Below.alloc ?_ (by first | (simp; done) | (simp; omega) | omega) _ | refine Below.drew ?_ | refine Below.trans ?_ (Below.mono (by assumption) (by first | (simp; done) | (simp; omega) | omega))))) HS.out).mono ?_
  rintro e w2 ⟨rfl, hb2⟩
  have hz2 := hb2.size
  (try simp at hz2)
  have bb2 : Below w1.heap.size w1 w2 := (by repeat (first | exact Below.refl _ _ | assumption | refine below_drewN ?_ _ | refine Below.setCell ?_ (by first | (simp; done) | (simp; omega)) _ | refine Below.alloc ?_ (by first | (simp; done) | (simp; omega) | omega) _ | refine Below.drew ?_ | refine Below.trans ?_ (Below.mono (by assumption) (by first | (simp; done) | (simp; omega) | omega))))
  have be2 : Below w.heap.size w w2 := BE1.out.trans (bb2.mono BE1.out.size)
  have HT2 := Lib.hid (HT1.out.below bb2)
  have HL2 := Lib.hid (HL1.out.below bb2)
  have HM2 := Lib.hid (HM1.out.below bb2)
  have BE2 := Lib.hid be2
  clear be2 bb2 hb2 BE1 HT1 HL1 HM1
  go_upto_region 4 with fail
  obtain ⟨i0, hi, hy0, hy1, hy2⟩ := info_parts info_amount
  have HI := Lib.hid hi
  have HY0 := Lib.hid hy0
  have HY1 := Lib.hid hy1
  have HY2 := Lib.hid hy2
  clear hi hy0 hy1 hy2
  go_cut [10] (fun s wx => OwnA wx w.heap.size s (l ++ m) ∧ Below w.heap.size w wx)
  case first =>
    have hbz := BE2.out.size
    have HL9 := Lib.hid (show Amts (w2.alloc (.cells #[] 33)) q l from HL2.out.below ((Below.refl _ _).alloc (Nat.le_refl _) _))
    have HM9 := Lib.hid (show Amts (w2.alloc (.cells #[] 33)) r m from HM2.out.below ((Below.refl _ _).alloc (Nat.le_refl _) _))
    have HB9 := Lib.hid (show Below w.heap.size w (w2.alloc (.cells #[] 33)) from BE2.out.alloc hbz _)
    have HO9 := Lib.hid (show (w2.alloc (.cells #[] 33)).ownsRow w.heap.size 33 3 (.slice (some ⟨w2.heap.size, 0, none⟩) 0 0) 0 [] from World.ownsRow_lit w2 #[] 0 hbz (by decide) rfl)
    cases q with
    | none =>
      cases r with
      | none =>
        obtain rfl := HL9.out.none_nil
        obtain rfl := hq0 rfl
        obtain rfl := HM9.out.none_nil
        obtain rfl := hr0 rfl
        go_wp2_with (first | (at_builtin; refine wpList_append_own_none rfl (.tmp 42) (.tmp 43) 23 rfl w.heap.size 33 i0 3 Try.underlying23 HI.out _ _ _ rfl HO9.out rfl ?_) | (at_builtin; refine wpList_append_own_none rfl (.tmp 44) (.tmp 45) 23 rfl w.heap.size 33 i0 3 Try.underlying23 HI.out _ _ _ rfl HO9.out rfl ?_))
        go_meet
        exact ⟨HO9.out, HB9.out⟩
      | some x =>
        obtain rfl := HL9.out.none_nil
        obtain rfl := hq0 rfl
        go_wp2_with (first | (at_builtin; refine wpList_append_own_none rfl (.tmp 42) (.tmp 43) 23 rfl w.heap.size 33 i0 3 Try.underlying23 HI.out _ _ _ rfl HO9.out rfl ?_) | (at_builtin; refine wpList_append_own_at _ rfl (.tmp 44) (.tmp 45) 23 rfl w.heap.size 33 i0 (.agg #[.int .i64 0, .int .i64 0, .int .i64 0]) 3 24 Try.underlying23 HI.out HY0.out HY1.out HY2.out rfl (by decide) _ _ _ rfl HO9.out x m.length capm (cellsA m) rfl (cellsA_len m) HM9.out.news (cellsA_one m) (by simp [maxLen]; omega) (by omega) HB9.out.size ?_))
        intro v9 w9 hown hgrow _ _
        go_wp2_with fail
        go_meet
        exact ⟨ownA_app (l := []) rfl rfl (by simpa [cellsA] using hown), HB9.out.grown hgrow HB9.out.size (fun b hb => by simp [Value.ownBlock] at hb; omega)⟩
    | some y =>
      cases r with
      | none =>
        obtain rfl := HM9.out.none_nil
        obtain rfl := hr0 rfl
        go_wp2_with (at_builtin; refine wpList_append_own_at _ rfl (.tmp 42) (.tmp 43) 23 rfl w.heap.size 33 i0 (.agg #[.int .i64 0, .int .i64 0, .int .i64 0]) 3 24 Try.underlying23 HI.out HY0.out HY1.out HY2.out rfl (by decide) _ _ _ rfl HO9.out y l.length capl (cellsA l) rfl (cellsA_len l) HL9.out.news (cellsA_one l) (by simp [maxLen]; omega) (by omega) HB9.out.size ?_)
        intro v8 w8 hown hgrow _ hat
        have hb8 : Below w.heap.size w w8 := HB9.out.grown hgrow HB9.out.size (fun b hb => by simp [Value.ownBlock] at hb; omega)
        have hb98 : Below w2.heap.size w2 w8 := Below.grown (((Below.refl _ _).alloc (Nat.le_refl _) _) : Below w2.heap.size w2 (w2.alloc (.cells #[] 33))) hgrow (by simp) (fun b hb => by simp [Value.ownBlock] at hb; omega)
        have ho8 : OwnA w8 w.heap.size v8 l := ownA_app (l := []) rfl rfl (by simpa [cellsA] using hown)
        have HB8 := Lib.hid hb8
        have HB98 := Lib.hid hb98
        have HO8 := Lib.hid (show w8.ownsRow w.heap.size 33 3 v8 l.length (cellsA l) from ho8)
        clear hown hgrow hat hb8 hb98 ho8
        go_wp2_with (at_builtin; refine wpList_append_own_none rfl (.tmp 44) (.tmp 45) 23 rfl w.heap.size 33 i0 3 Try.underlying23 HI.out _ _ _ rfl HO8.out rfl ?_)
        go_meet
        exact ⟨by rw [List.append_nil]; exact HO8.out, HB8.out⟩
      | some x =>
        go_wp2_with (at_builtin; refine wpList_append_own_at _ rfl (.tmp 42) (.tmp 43) 23 rfl w.heap.size 33 i0 (.agg #[.int .i64 0, .int .i64 0, .int .i64 0]) 3 24 Try.underlying23 HI.out HY0.out HY1.out HY2.out rfl (by decide) _ _ _ rfl HO9.out y l.length capl (cellsA l) rfl (cellsA_len l) HL9.out.news (cellsA_one l) (by simp [maxLen]; omega) (by omega) HB9.out.size ?_)
        intro v8 w8 hown hgrow _ hat
        have hb8 : Below w.heap.size w w8 := HB9.out.grown hgrow HB9.out.size (fun b hb => by simp [Value.ownBlock] at hb; omega)
        have hb98 : Below w2.heap.size w2 w8 := Below.grown (((Below.refl _ _).alloc (Nat.le_refl _) _) : Below w2.heap.size w2 (w2.alloc (.cells #[] 33))) hgrow (by simp) (fun b hb => by simp [Value.ownBlock] at hb; omega)
        have ho8 : OwnA w8 w.heap.size v8 l := ownA_app (l := []) rfl rfl (by simpa [cellsA] using hown)
        have HB8 := Lib.hid hb8
        have HB98 := Lib.hid hb98
        have HO8 := Lib.hid (show w8.ownsRow w.heap.size 33 3 v8 l.length (cellsA l) from ho8)
        clear hown hgrow hat hb8 hb98 ho8
        have HM8 := Lib.hid (HM2.out.below HB98.out)
        go_wp2_with (at_builtin; refine wpList_append_own_at _ rfl (.tmp 44) (.tmp 45) 23 rfl w.heap.size 33 i0 (.agg #[.int .i64 0, .int .i64 0, .int .i64 0]) 3 24 Try.underlying23 HI.out HY0.out HY1.out HY2.out rfl (by decide) _ _ _ rfl HO8.out x m.length capm (cellsA m) rfl (cellsA_len m) HM8.out.news (cellsA_one m) (by simp [maxLen]; omega) (by omega) HB8.out.size ?_)
        intro v9 w9 hown hgrow _ _
        go_wp2_with fail
        go_meet
        exact ⟨ownA_app rfl rfl hown, HB8.out.grown hgrow HB8.out.size (fun b hb => (HO8.out.lt b hb).1)⟩
  case rest =>
    obtain ⟨ho, hbx⟩ := hcut
    rw [← HAL.out] at ho
    obtain ⟨qa, ca, ha, hamts, hblk⟩ := ho.amts H64.out
    obtain ⟨wa, hwa⟩ : ∃ W, W = wc := ⟨_, rfl⟩
    subst hwa
    subst ha
    have HBX := Lib.hid hbx
    have HAA := Lib.hid hamts
    clear ho hbx hamts hblk
    go_wp2_with fail
    go_loopw [11, 12] (fun vb i wr => ∃ (k : Nat) (b : Value), vb = b ∧ i = .int .i64 k ∧ k ≤ al.length ∧ OwnA wr wa.heap.size b ((al.take k).map (Qn.moveS us tt)) ∧ Below wa.heap.size wa wr) (fun _ i _ => al.length - (intOf i).toNat)
    case atStart => exact ⟨0, _, rfl, rfl, Nat.zero_le _, World.ownsRow_nil _ _ _ _, Below.refl _ _⟩
    case round =>
      obtain ⟨k, _, rfl, rfl, hk, hob, hbw⟩ := hrel
      have HOB := Lib.hid hob
      have HBW := Lib.hid hbw
      clear hob hbw
      by_cases hlt : k < al.length
      · have hu : al[k]? = some al[k] := List.getElem?_eq_getElem hlt
        generalize al[k] = a at hu
        obtain ⟨ba, offa, rfl, hca, h64a, hbla⟩ := (HAA.out.below HBW.out).at hu
        obtain ⟨a0, a1, a2⟩ := hca
        have hi0 : (0 : Int) ≤ (k : Int) := by omega
        have hi1 : (k : Int) < (al.length : Int) := by omega
        have HR := Lib.hid (take_snoc (f := Qn.moveS us tt) hu)
        have HT0 := Lib.hid (HTW.out.below (HBX.out.trans (HBW.out.mono HBX.out.size)))
        obtain ⟨rv, hrv⟩ : ∃ rv, rv = (al.take k).map (Qn.moveS us tt) := ⟨_, rfl⟩
        have hrl : rv.length ≤ 60 := by rw [hrv, List.length_map, List.length_take]; omega
        rw [← hrv] at HR
        have HOB3 := Lib.hid (show OwnA wr wa.heap.size _ rv by rw [hrv]; exact HOB.out)
        clear hu hrv HOB
        obtain ⟨cb, cr, e, hc⟩ : ∃ b r e, Qn.convertS us a tt = (b, r, e) := ⟨_, _, _, rfl⟩
        have HMV := Lib.hid (move_case hc)
        have HC := Lib.hid hc
        clear hc
        go_wp2_with fail
        refine (conv_any p cap us a tt _ (HT0.out.below (by repeat (first | exact Below.refl _ _ | assumption | refine below_drewN ?_ _ | refine Below.setCell ?_ (by first | (simp; done) | (simp; omega)) _ | refine Below.alloc ?_ (by first | (simp; done) | (simp; omega) | omega) _ | refine Below.drew ?_ | refine Below.trans ?_ (Below.mono (by assumption) (by first | (simp; done) | (simp; omega) | omega))))) hcap h64a).mono ?_
        rintro e w1 ⟨rfl, hb1⟩
        rw [HC.out]
        simp only [RA]
        have hz1 := hb1.size
        (try simp at hz1)
        have bb1 : Below wr.heap.size wr w1 := (by repeat (first | exact Below.refl _ _ | assumption | refine below_drewN ?_ _ | refine Below.setCell ?_ (by first | (simp; done) | (simp; omega)) _ | refine Below.alloc ?_ (by first | (simp; done) | (simp; omega) | omega) _ | refine Below.drew ?_ | refine Below.trans ?_ (Below.mono (by assumption) (by first | (simp; done) | (simp; omega) | omega))))
        have be1 : Below wr.heap.size wr w1 := bb1
        have HT1 := Lib.hid (HT0.out.below bb1)
        have BE1 := Lib.hid be1
        clear be1 bb1 hb1 HT0
        obtain ⟨am, ham⟩ : ∃ am, am = Qn.moveS us tt a := ⟨_, rfl⟩
        rw [← ham] at HMV HR
        have y0 := cell_keep BE1.out a0
        have y1 := cell_keep BE1.out a1
        have y2 := cell_keep BE1.out a2
        have hlb1 : ba < w1.heap.size := World.block_lt_of_cell? w1 _ y0
        have hlb2 : ba < w1.heap.size + 1 := by omega
        clear a0 a1 a2 ham
        go_upto_if 64 with fail
        go_cut [13] (fun s13 wx => s13 = .pointer (some ⟨w1.heap.size, 0, none⟩) ∧ ACell wx w1.heap.size 0 am ∧ Below wr.heap.size wr wx)
        case first =>
          by_cases he : e = 0
          · obtain rfl := HMV.out.1 he
            have heb : (e != 0) = false := by rw [he]; rfl
            clear he
            go_wp2_with fail
            go_meet
            exact ⟨rfl, ⟨by go_simp, by go_simp, by go_simp⟩, (by have q := BE1.out; repeat (first | exact q | refine Below.setCell ?_ (by first | (simp; done) | omega | (simp; omega)) _ | refine Below.alloc ?_ (by first | (simp; done) | omega | (simp; omega)) _ | refine below_drewN ?_ _ | refine Below.drew ?_))⟩
          · obtain rfl := HMV.out.2 he
            have heb : (e != 0) = true := bne_iff_ne.2 he
            clear he
            go_wp2_with fail
            go_meet
            exact ⟨rfl, ⟨by go_simp, by go_simp, by go_simp⟩, (by have q := BE1.out; repeat (first | exact q | refine Below.setCell ?_ (by first | (simp; done) | omega | (simp; omega)) _ | refine Below.alloc ?_ (by first | (simp; done) | omega | (simp; omega)) _ | refine below_drewN ?_ _ | refine Below.drew ?_))⟩
        case rest =>
          obtain ⟨rfl, ⟨d0, d1, d2⟩, hb6⟩ := hcut
          obtain ⟨w6, rfl⟩ : ∃ W, W = wc := ⟨_, rfl⟩
          have hb1 := World.block_lt_of_cell? w6 _ d0
          have HO6 := Lib.hid (show w6.ownsRow wa.heap.size 33 3 _ rv.length (cellsA rv) from HOB3.out.below hb6)
          have HB6 := Lib.hid (HBW.out.trans (hb6.mono HBW.out.size))
          clear hb6 y0 y1 y2 BE1
          go_wp2_with (at_builtin; refine wpList_append_own_at _ rfl (.tmp 69) (.tmp 71) 23 rfl wa.heap.size 33 i0 (.agg #[.int .i64 0, .int .i64 0, .int .i64 0]) 3 24 Try.underlying23 HI.out HY0.out HY1.out HY2.out rfl (by decide) _ _ _ rfl (HO6.out.alloc _) ⟨w6.heap.size, 0, none⟩ 1 1 [.int .i64 am.1, .int .i64 am.2.1, .int .i64 am.2.2] rfl rfl (cell_three_new _ _ _ _ _) (by simp [Value.oneCell']) (by simp [maxLen]; omega) (by omega) (by have := HB6.out.size; simp; omega) ?_)
          intro v' w7 hown hgrow _ _
          have hb7 : Below wa.heap.size wa w7 := (HB6.out.alloc HB6.out.size _).grown hgrow (by have := HB6.out.size; simp; omega) (fun b hb => (HO6.out.lt b hb).1)
          have ho7 : OwnA w7 wa.heap.size v' ((al.take (k + 1)).map (Qn.moveS us tt)) := by
            rw [HR.out]
            exact ownA_app (m := [am]) rfl rfl hown
          have HO7 := Lib.hid ho7
          have HB7 := Lib.hid hb7
          clear hown hgrow hb7 ho7
          go_wp2_with fail
          go_roundw
          case rel => exact ⟨k + 1, _, rfl, by simp, hlt, HO7.out, HB7.out⟩
          case measure =>
            simp only [intOf]
            exact meas_lt hlt
      · obtain rfl : k = al.length := by omega
        rw [List.take_length, ← HML.out] at HOB
        have hbl : ml.length ≤ 60 := by rw [HML.out, List.length_map]; omega
        obtain ⟨qb, cbk, hb, hbk, _⟩ := HOB.out.amts (fun a ha => by
          rw [HML.out] at ha
          obtain ⟨c, hc, rfl⟩ := List.mem_map.1 ha
          exact moved_64 (H64.out c hc))
        subst hb
        have HBWR := Lib.hid (HBX.out.trans (HBW.out.mono HBX.out.size))
        have HT0 := Lib.hid (HTW.out.below HBWR.out)
        have HL0 := Lib.hid (HLW.out.below HBWR.out)
        have HM0 := Lib.hid (HMW.out.below HBWR.out)
        have HA0 := Lib.hid (HAA.out.below HBW.out)
        have HB0 := Lib.hid hbk
        clear hbk HOB HBW HAA HBX
        go_wp2_with fail
        refine (basket_gen p q cap capl us l xs x e _ (HT0.out.below (by repeat (first | exact Below.refl _ _ | assumption | refine below_drewN ?_ _ | refine Below.setCell ?_ (by first | (simp; done) | (simp; omega)) _ | refine Below.alloc ?_ (by first | (simp; done) | (simp; omega) | omega) _ | refine Below.drew ?_ | refine Below.trans ?_ (Below.mono (by assumption) (by first | (simp; done) | (simp; omega) | omega))))) hcap (HL0.out.below (by repeat (first | exact Below.refl _ _ | assumption | refine below_drewN ?_ _ | refine Below.setCell ?_ (by first | (simp; done) | (simp; omega)) _ | refine Below.alloc ?_ (by first | (simp; done) | (simp; omega) | omega) _ | refine Below.drew ?_ | refine Below.trans ?_ (Below.mono (by assumption) (by first | (simp; done) | (simp; omega) | omega))))) (by omega) HSA.out HXA.out).mono ?_
        rintro e w1 ⟨qx, rfl, hrx, hb1⟩
        have hz1 := hb1.size
        (try simp at hz1)
        have bb1 : Below wr.heap.size wr w1 := (by repeat (first | exact Below.refl _ _ | assumption | refine below_drewN ?_ _ | refine Below.setCell ?_ (by first | (simp; done) | (simp; omega)) _ | refine Below.alloc ?_ (by first | (simp; done) | (simp; omega) | omega) _ | refine Below.drew ?_ | refine Below.trans ?_ (Below.mono (by assumption) (by first | (simp; done) | (simp; omega) | omega))))
        have be1 : Below wr.heap.size wr w1 := bb1
        have HT1 := Lib.hid (HT0.out.below bb1)
        have HL1 := Lib.hid (HL0.out.below bb1)
        have HM1 := Lib.hid (HM0.out.below bb1)
        have HA1 := Lib.hid (HA0.out.below bb1)
        have HB1 := Lib.hid (HB0.out.below bb1)
        have BE1 := Lib.hid be1
        clear be1 bb1 hb1 HT0 HL0 HM0 HA0 HB0
        have HRX1 := Lib.hid hrx
        clear hrx
        go_wp2_with fail
        refine (basket_gen p r cap capm us m ys y f _ (HT1.out.below (by repeat (first | exact Below.refl _ _ | assumption | refine below_drewN ?_ _ | refine Below.setCell ?_ (by first | (simp; done) | (simp; omega)) _ | refine Below.alloc ?_ (by first | (simp; done) | (simp; omega) | omega) _ | refine Below.drew ?_ | refine Below.trans ?_ (Below.mono (by assumption) (by first | (simp; done) | (simp; omega) | omega))))) hcap (HM1.out.below (by repeat (first | exact Below.refl _ _ | assumption | refine below_drewN ?_ _ | refine Below.setCell ?_ (by first | (simp; done) | (simp; omega)) _ | refine Below.alloc ?_ (by first | (simp; done) | (simp; omega) | omega) _ | refine Below.drew ?_ | refine Below.trans ?_ (Below.mono (by assumption) (by first | (simp; done) | (simp; omega) | omega))))) (by omega) HSB.out HXB.out).mono ?_
        rintro e w2 ⟨qy, rfl, hry, hb2⟩
        have hz2 := hb2.size
        (try simp at hz2)
        have bb2 : Below w1.heap.size w1 w2 := (by repeat (first | exact Below.refl _ _ | assumption | refine below_drewN ?_ _ | refine Below.setCell ?_ (by first | (simp; done) | (simp; omega)) _ | refine Below.alloc ?_ (by first | (simp; done) | (simp; omega) | omega) _ | refine Below.drew ?_ | refine Below.trans ?_ (Below.mono (by assumption) (by first | (simp; done) | (simp; omega) | omega))))
        have be2 : Below wr.heap.size wr w2 := BE1.out.trans (bb2.mono BE1.out.size)
        have HT2 := Lib.hid (HT1.out.below bb2)
        have HL2 := Lib.hid (HL1.out.below bb2)
        have HM2 := Lib.hid (HM1.out.below bb2)
        have HA2 := Lib.hid (HA1.out.below bb2)
        have HB2 := Lib.hid (HB1.out.below bb2)
        have HRX2 := Lib.hid (HRX1.out.below bb2)
        have BE2 := Lib.hid be2
        clear be2 bb2 hb2 BE1 HT1 HL1 HM1 HA1 HB1 HRX1
        have HRY2 := Lib.hid hry
        clear hry
        go_wp2_with fail
        refine (basket_gen p qa cap ca us al zs z g _ (HT2.out.below (by repeat (first | exact Below.refl _ _ | assumption | refine below_drewN ?_ _ | refine Below.setCell ?_ (by first | (simp; done) | (simp; omega)) _ | refine Below.alloc ?_ (by first | (simp; done) | (simp; omega) | omega) _ | refine Below.drew ?_ | refine Below.trans ?_ (Below.mono (by assumption) (by first | (simp; done) | (simp; omega) | omega))))) hcap (HA2.out.below (by repeat (first | exact Below.refl _ _ | assumption | refine below_drewN ?_ _ | refine Below.setCell ?_ (by first | (simp; done) | (simp; omega)) _ | refine Below.alloc ?_ (by first | (simp; done) | (simp; omega) | omega) _ | refine Below.drew ?_ | refine Below.trans ?_ (Below.mono (by assumption) (by first | (simp; done) | (simp; omega) | omega))))) (by omega) HSC.out HXC.out).mono ?_
        rintro e w3 ⟨qz, rfl, hrz, hb3⟩
        have hz3 := hb3.size
        (try simp at hz3)
        have bb3 : Below w2.heap.size w2 w3 := (by repeat (first | exact Below.refl _ _ | assumption | refine below_drewN ?_ _ | refine Below.setCell ?_ (by first | (simp; done) | (simp; omega)) _ | refine Below.alloc ?_ (by first | (simp; done) | (simp; omega) | omega) _ | refine Below.drew ?_ | refine Below.trans ?_ (Below.mono (by assumption) (by first | (simp; done) | (simp; omega) | omega))))
        have be3 : Below wr.heap.size wr w3 := BE2.out.trans (bb3.mono BE2.out.size)
        have HT3 := Lib.hid (HT2.out.below bb3)
        have HL3 := Lib.hid (HL2.out.below bb3)
        have HM3 := Lib.hid (HM2.out.below bb3)
        have HA3 := Lib.hid (HA2.out.below bb3)
        have HB3 := Lib.hid (HB2.out.below bb3)
        have HRX3 := Lib.hid (HRX2.out.below bb3)
        have HRY3 := Lib.hid (HRY2.out.below bb3)
        have BE3 := Lib.hid be3
        clear be3 bb3 hb3 BE2 HT2 HL2 HM2 HA2 HB2 HRX2 HRY2
        have HRZ3 := Lib.hid hrz
        clear hrz
        go_wp2_with fail
        refine (basket_gen p qb cap cbk us ml vs v h _ (HT3.out.below (by repeat (first | exact Below.refl _ _ | assumption | refine below_drewN ?_ _ | refine Below.setCell ?_ (by first | (simp; done) | (simp; omega)) _ | refine Below.alloc ?_ (by first | (simp; done) | (simp; omega) | omega) _ | refine Below.drew ?_ | refine Below.trans ?_ (Below.mono (by assumption) (by first | (simp; done) | (simp; omega) | omega))))) hcap (HB3.out.below (by repeat (first | exact Below.refl _ _ | assumption | refine below_drewN ?_ _ | refine Below.setCell ?_ (by first | (simp; done) | (simp; omega)) _ | refine Below.alloc ?_ (by first | (simp; done) | (simp; omega) | omega) _ | refine Below.drew ?_ | refine Below.trans ?_ (Below.mono (by assumption) (by first | (simp; done) | (simp; omega) | omega))))) (by omega) HSD.out HXD.out).mono ?_
        rintro e w4 ⟨qv, rfl, hrv, hb4⟩
        have hz4 := hb4.size
        (try simp at hz4)
        have bb4 : Below w3.heap.size w3 w4 := (by repeat (first | exact Below.refl _ _ | assumption | refine below_drewN ?_ _ | refine Below.setCell ?_ (by first | (simp; done) | (simp; omega)) _ | refine Below.alloc ?_ (by first | (simp; done) | (simp; omega) | omega) _ | refine Below.drew ?_ | refine Below.trans ?_ (Below.mono (by assumption) (by first | (simp; done) | (simp; omega) | omega))))
        have be4 : Below wr.heap.size wr w4 := BE3.out.trans (bb4.mono BE3.out.size)
        have HT4 := Lib.hid (HT3.out.below bb4)
        have HL4 := Lib.hid (HL3.out.below bb4)
        have HM4 := Lib.hid (HM3.out.below bb4)
        have HA4 := Lib.hid (HA3.out.below bb4)
        have HB4 := Lib.hid (HB3.out.below bb4)
        have HRX4 := Lib.hid (HRX3.out.below bb4)
        have HRY4 := Lib.hid (HRY3.out.below bb4)
        have HRZ4 := Lib.hid (HRZ3.out.below bb4)
        have BE4 := Lib.hid be4
        clear be4 bb4 hb4 BE3 HT3 HL3 HM3 HA3 HB3 HRX3 HRY3 HRZ3
        have HRV4 := Lib.hid hrv
        clear hrv
        go_upto_region 17 with fail
        go_cut [108] (fun s wx => s = .bool false ∧ Below w4.heap.size w4 wx)
        case first =>
          by_cases hg0 : g = 0
          · subst hg0
            by_cases hh0 : h = 0
            · subst hh0
              have HSM := Lib.hid (HSAME.out (by first | rfl | trivial) (by first | rfl | trivial))
              go_wp2_with fail
              refine (same_any qz qv zs.length vs.length zs vs _ (by have := HLC.out (by first | rfl | trivial); omega) (HRZ4.out.below (by repeat (first | exact Below.refl _ _ | assumption | refine below_drewN ?_ _ | refine Below.setCell ?_ (by first | (simp; done) | (simp; omega)) _ | refine Below.alloc ?_ (by first | (simp; done) | (simp; omega) | omega) _ | refine Below.drew ?_ | refine Below.trans ?_ (Below.mono (by assumption) (by first | (simp; done) | (simp; omega) | omega))))) (HRV4.out.below (by repeat (first | exact Below.refl _ _ | assumption | refine below_drewN ?_ _ | refine Below.setCell ?_ (by first | (simp; done) | (simp; omega)) _ | refine Below.alloc ?_ (by first | (simp; done) | (simp; omega) | omega) _ | refine Below.drew ?_ | refine Below.trans ?_ (Below.mono (by assumption) (by first | (simp; done) | (simp; omega) | omega)))))).mono ?_
              rintro e w5 ⟨rfl, hb5⟩
              rw [HSM.out]
              go_wp2_with fail
              go_meet
              exact ⟨rfl, hb5⟩
            · have hhc : (h == 0) = false := beq_eq_false_iff_ne.2 hh0
              clear hh0
              go_wp2_with fail
              go_meet
              exact ⟨rfl, Below.refl _ _⟩
          · have hgc : (g == 0) = false := beq_eq_false_iff_ne.2 hg0
            clear hg0
            go_wp2_with fail
            go_meet
            exact ⟨rfl, Below.refl _ _⟩
        case rest =>
          obtain ⟨rfl, hb5⟩ := hcut
          obtain ⟨wb, rfl⟩ : ∃ W, W = wc := ⟨_, rfl⟩
          have HBB := Lib.hid (HBWR.out.trans ((BE4.out.trans (hb5.mono BE4.out.size)).mono HBWR.out.size))
          have HTb := Lib.hid (HT4.out.below hb5)
          have HXb := Lib.hid (HRX4.out.below hb5)
          have HYb := Lib.hid (HRY4.out.below hb5)
          have HZb := Lib.hid (HRZ4.out.below hb5)
          clear hb5
          by_cases he0 : e = 0
          rotate_left
          · have heb : (e != 0) = true := bne_iff_ne.2 he0
            clear he0
            go_wp2_with fail
            go_ret
            exact ⟨rfl, HBB.out⟩
          subst he0
          by_cases hf0 : f = 0
          rotate_left
          · have hfb : (f != 0) = true := bne_iff_ne.2 hf0
            clear hf0
            go_wp2_with fail
            go_ret
            exact ⟨rfl, HBB.out⟩
          subst hf0
          by_cases hg0 : g = 0
          rotate_left
          · have hgb : (g != 0) = true := bne_iff_ne.2 hg0
            clear hg0
            go_wp2_with fail
            go_ret
            exact ⟨rfl, HBB.out⟩
          subst hg0
          obtain ⟨hlx, hly, hlz, hval⟩ := HFIN.out (by first | rfl | trivial) (by first | rfl | trivial) (by first | rfl | trivial)
          have hus : us.length ≤ 25 := (small_yes HS.out).1
          have hnx : ((xs.length : Int) != (us.length : Int)) = false := by rw [hlx]; simp
          have hny : ((ys.length : Int) != (us.length : Int)) = false := by rw [hly]; simp
          have hnz : ((zs.length : Int) != (us.length : Int)) = false := by rw [hlz]; simp
          have HLX := Lib.hid hlx
          have HLY := Lib.hid hly
          have HLZ := Lib.hid hlz
          have HV := Lib.hid hval
          clear hlx hly hlz hval
          go_wp2_with fail
          go_loopw [23] (fun i wr2 => ∃ k : Nat, i = .int .i64 k ∧ k ≤ us.length ∧ Below wb.heap.size wb wr2) (fun i _ => us.length - (intOf i).toNat)
          case atStart => exact ⟨0, rfl, Nat.zero_le _, Below.refl _ _⟩
          case round =>
            obtain ⟨k, rfl, hk, hbw⟩ := hrel
            have HBW := Lib.hid hbw
            clear hbw
            by_cases hlt : k < us.length
            · have hltx : k < xs.length := by have := HLX.out; omega
              have hlty : k < ys.length := by have := HLY.out; omega
              have hltz : k < zs.length := by have := HLZ.out; omega
              obtain ⟨hvs, hvn⟩ := HV.out k hlt
              rw [Qn.getD_get hltx, Qn.getD_get hlty, Qn.getD_get hltz] at hvs
              rw [Qn.getD_get hltz] at hvn
              have hx : xs[k]? = some xs[k] := List.getElem?_eq_getElem hltx
              have hy : ys[k]? = some ys[k] := List.getElem?_eq_getElem hlty
              have hz : zs[k]? = some zs[k] := List.getElem?_eq_getElem hltz
              have hu : us[k]? = some us[k] := List.getElem?_eq_getElem hlt
              have hud : us.getD k ⟨[], 0, 0, (0, 0)⟩ = us[k] := by rw [List.getD_eq_getElem?_getD, hu]; rfl
              rw [hud] at hvn
              clear hud
              generalize xs[k] = x0 at hx hvs
              generalize ys[k] = y0 at hy hvs
              generalize zs[k] = z0 at hz hvs hvn
              generalize us[k] = u0 at hu hvn
              obtain ⟨bx, offx, rfl, hcx, h64x, hblx⟩ := (HXb.out.below HBW.out).at hx
              obtain ⟨byy, offy, rfl, hcy, h64y, hbly⟩ := (HYb.out.below HBW.out).at hy
              obtain ⟨bz, offz, rfl, hcz, h64z, hblz⟩ := (HZb.out.below HBW.out).at hz
              obtain ⟨bu, offu, rfl, hcu, h64u, hblu⟩ := (HTb.out.below HBW.out).at hu
              obtain ⟨x1, x2⟩ := hcx
              obtain ⟨y1, y2⟩ := hcy
              obtain ⟨z1, z2⟩ := hcz
              obtain ⟨_, _, u2, _, _⟩ := hcu
              have hi0 : (0 : Int) ≤ (k : Int) := by omega
              have hi1 : (k : Int) < (us.length : Int) := by omega
              have hix : (k : Int) < (xs.length : Int) := by omega
              have hiy : (k : Int) < (ys.length : Int) := by omega
              have hiz : (k : Int) < (zs.length : Int) := by omega
              have HSUM := Lib.hid hvs
              have HVN := Lib.hid hvn
              clear hx hy hz hu hvs hvn
              go_upto_region 26 with fail
              go_cut [24, 25] (fun s24 s25 wx => ∃ g : Nat, s24 = .pointer (some ⟨g, 0, none⟩) ∧ s25 = .int .i64 0 ∧ wr.heap.size ≤ g ∧ wx.cell? ⟨g, 0, none⟩ = some (.int .i64 z0.1) ∧ wx.cell? ⟨g, 1, none⟩ = some (.int .i64 z0.2) ∧ Below wr.heap.size wr wx)
              case first =>
                go_region_held3 (fun w' => Below wr.heap.size wr w' ∧ ∀ b o, b < wr.heap.size → w'.cell? ⟨b, o, none⟩ = wr.cell? ⟨b, o, none⟩) (first | assumption | exact holdT (by assumption) (by assumption) | exact hold_alloc (by assumption) | exact hold_set (hold_set (by assumption) (by simp; omega)) (by simp; omega) | exact holdS (by repeat (first | exact Below.refl _ _ | assumption | refine below_drewN ?_ _ | refine Below.setCell ?_ (by first | (simp; done) | (simp; omega)) _ | refine Below.alloc ?_ (by first | (simp; done) | (simp; omega) | omega) _ | refine Below.drew ?_ | refine Below.trans ?_ (Below.mono (by assumption) (by first | (simp; done) | (simp; omega) | omega)))))
                  (first | (go_at_call 25; refine (add_any x0.1 x0.2 y0.1 y0.2 _ h64x.1 h64x.2 h64y.1 h64y.2).mono ?_; rintro e w' ⟨rfl, hb'⟩; rw [HSUM.out]; simp only [RV]; have hzz := hb'.size; (try simp at hzz); have y0 := hb'.cell (p := ⟨wr.heap.size, 0, none⟩); have y1 := hb'.cell (p := ⟨wr.heap.size, 1, none⟩); have y2 := hb'.frozen (p := ⟨wr.heap.size, 0, none⟩); have y3 := hb'.frozen (p := ⟨wr.heap.size, 1, none⟩)))
                all_goals
                  go_wp2_with fail
                  go_meet
                  exact ⟨_, rfl, rfl, (by first | (simp; done) | (simp; omega) | omega), by go_simp, by go_simp, (by repeat (first | exact Below.refl _ _ | assumption | refine below_drewN ?_ _ | refine Below.setCell ?_ (by first | (simp; done) | (simp; omega)) _ | refine Below.alloc ?_ (by first | (simp; done) | (simp; omega) | omega) _ | refine Below.drew ?_ | refine Below.trans ?_ (Below.mono (by assumption) (by first | (simp; done) | (simp; omega) | omega))))⟩
              case rest =>
                obtain ⟨g1, rfl, rfl, hge1, e0, e1, hb1⟩ := hcut
                obtain ⟨wq, rfl⟩ : ∃ W, W = wc := ⟨_, rfl⟩
                have q1 := cell_keep hb1 z1
                have q2 := cell_keep hb1 z2
                have q3 := cell_keep hb1 u2
                have hg1 : g1 < wq.heap.size := World.block_lt_of_cell? wq _ e0
                have hbzq : bz < wq.heap.size := World.block_lt_of_cell? wq _ q1
                have hbuq : bu < wq.heap.size := World.block_lt_of_cell? wq _ q3
                have HBQ := Lib.hid (HBW.out.trans (hb1.mono HBW.out.size))
                clear hb1 x1 x2 y1 y2 z1 z2 u2
                by_cases hbs : u0.base = (k : Int)
                · have hbb : (u0.base != (k : Int)) = false := by rw [hbs]; simp
                  clear hbs
                  go_wp2_with fail
                  go_quiet (fail)
                  go_wp2_with fail
                  go_roundw
                  case rel => exact ⟨k + 1, by simp, hlt, below_drewN HBQ.out _⟩
                  case measure =>
                    simp only [intOf]
                    exact meas_lt hlt
                · obtain rfl := HVN.out hbs
                  have hbb : (u0.base != (k : Int)) = true := bne_iff_ne.2 hbs
                  clear hbs
                  go_wp2_with fail
                  go_quiet (fail)
                  go_wp2_with fail
                  go_roundw
                  case rel => exact ⟨k + 1, by simp, hlt, below_drewN HBQ.out _⟩
                  case measure =>
                    simp only [intOf]
                    exact meas_lt hlt
            · go_wp2_with fail
              go_ret
              exact ⟨rfl, HBB.out.trans (HBW.out.mono HBB.out.size)⟩
end Go.Proofs.Ytfddfjokpaepfaa

/- The reference's Basket. -/
import Derived.Test.YtpdknjbhnelidaaQtZe
import Derived.Test.YtpdknjbhnelidaaQtZc
namespace Go.Proofs.Ytpdknjbhnelidaa
open Go.RowKit

/-- what a Basket answers: a list of ratios and a code -/
def BOut (w : World) (xs : List Qn.R) (c : Int) (e : Ending) (w' : World) : Prop := ∃ z cap, e = .returned (.tuple #[.slice z xs.length cap, .int .i64 c]) ∧ Rats w' z xs ∧ Below w.heap.size w w'
open Classical in
set_option maxRecDepth 100000 in
set_option maxHeartbeats 1600000 in
theorem rbas_bad (p q : Option Addr) (cap capl : Nat) (us : List Qn.Un) (l : List Qn.Am) (vi : Int) (w : World) (ht : Tab w p us) (hl : Amts w q l) (hva : Qn.validS us = (vi, false)) :
    Calls Try.prog 15 #[.slice p us.length cap, .slice q l.length capl] w (BOut w (([] : List Qn.R)) 1) := by
  have HT0 := Lib.hid ht
  have HL0 := Lib.hid hl
  clear ht hl
  have HVA := Lib.hid hva
  clear hva
  go_enter Try.func15, Try.ntmps15
  go_wp2_with fail
  refine (rqvalid_any p cap us _ (HT0.out.below (by repeat (first | exact Below.refl _ _ | assumption | refine below_drewN ?_ _ | refine Below.setCell ?_ (by first | (simp; done) | (simp; omega)) _ | refine Below.alloc ?_ (by first | (simp; done) | (simp; omega) | omega) _ | refine Below.drew ?_ | refine Below.trans ?_ (Below.mono (by assumption) (by first | (simp; done) | (simp; omega) | omega)))))).mono ?_
  rintro e w1 ⟨rfl, hb1⟩
  rw [HVA.out]
  simp only [RIB]
  have hz1 := hb1.size
  (try simp at hz1)
  have bb1 : Below w.heap.size w w1 := (by repeat (first | exact Below.refl _ _ | assumption | refine below_drewN ?_ _ | refine Below.setCell ?_ (by first | (simp; done) | (simp; omega)) _ | refine Below.alloc ?_ (by first | (simp; done) | (simp; omega) | omega) _ | refine Below.drew ?_ | refine Below.trans ?_ (Below.mono (by assumption) (by first | (simp; done) | (simp; omega) | omega))))
  have be1 : Below w.heap.size w w1 := bb1
  have HT1 := Lib.hid (HT0.out.below bb1)
  have HL1 := Lib.hid (HL0.out.below bb1)
  have BE1 := Lib.hid be1
  clear be1 bb1 hb1 HT0 HL0
  go_wp2_with fail
  go_ret2
  exact ⟨none, 0, rfl, rats_nil _, (by have q := BE1.out; repeat (first | exact q | refine Below.setCell ?_ (by first | (simp; done) | omega | (simp; omega)) _ | refine Below.alloc ?_ (by first | (simp; done) | omega | (simp; omega)) _ | refine below_drewN ?_ _ | refine Below.drew ?_))⟩
open Classical in
set_option maxRecDepth 100000 in
set_option maxHeartbeats 1600000 in
theorem rbas_may (p q : Option Addr) (cap capl : Nat) (us : List Qn.Un) (l : List Qn.Am) (vi : Int) (w : World) (ht : Tab w p us) (hl : Amts w q l) (hva : Qn.validS us = (vi, true)) (hs : ¬ ∀ a ∈ l, Qn.May us a) (hll : l.length ≤ 1000) :
    Calls Try.prog 15 #[.slice p us.length cap, .slice q l.length capl] w (BOut w (([] : List Qn.R)) 1) := by
  have HT0 := Lib.hid ht
  have HL0 := Lib.hid hl
  clear ht hl
  have HVA := Lib.hid hva
  clear hva
  have HS := Lib.hid hs
  clear hs
  go_enter Try.func15, Try.ntmps15
  go_wp2_with fail
  refine (rqvalid_any p cap us _ (HT0.out.below (by repeat (first | exact Below.refl _ _ | assumption | refine below_drewN ?_ _ | refine Below.setCell ?_ (by first | (simp; done) | (simp; omega)) _ | refine Below.alloc ?_ (by first | (simp; done) | (simp; omega) | omega) _ | refine Below.drew ?_ | refine Below.trans ?_ (Below.mono (by assumption) (by first | (simp; done) | (simp; omega) | omega)))))).mono ?_
  rintro e w1 ⟨rfl, hb1⟩
  rw [HVA.out]
  simp only [RIB]
  have hz1 := hb1.size
  (try simp at hz1)
  have bb1 : Below w.heap.size w w1 := (by repeat (first | exact Below.refl _ _ | assumption | refine below_drewN ?_ _ | refine Below.setCell ?_ (by first | (simp; done) | (simp; omega)) _ | refine Below.alloc ?_ (by first | (simp; done) | (simp; omega) | omega) _ | refine Below.drew ?_ | refine Below.trans ?_ (Below.mono (by assumption) (by first | (simp; done) | (simp; omega) | omega))))
  have be1 : Below w.heap.size w w1 := bb1
  have HT1 := Lib.hid (HT0.out.below bb1)
  have HL1 := Lib.hid (HL0.out.below bb1)
  have BE1 := Lib.hid be1
  clear be1 bb1 hb1 HT0 HL0
  go_wp2_with fail
  go_loopw [8] (fun si wr => ∃ (k : Nat), si = .int .i64 k ∧ k ≤ l.length ∧ (∀ x ∈ l.take k, Qn.May us x) ∧ Below w1.heap.size w1 wr) (fun si _ => l.length - (intOf si).toNat)
  case atStart => exact ⟨0, rfl, Nat.zero_le _, fun x hx => by simp at hx, Below.refl _ _⟩
  case round =>
    obtain ⟨k, rfl, hk, hmay, hbw⟩ := hrel
    have HMAY := Lib.hid hmay
    have HBW := Lib.hid hbw
    have HBE := Lib.hid (BE1.out.trans (hbw.mono BE1.out.size))
    clear hmay hbw
    by_cases hlt : k < l.length
    · have hu : l[k]? = some l[k] := List.getElem?_eq_getElem hlt
      generalize l[k] = a at hu
      have hi0 : (0 : Int) ≤ (k : Int) := by omega
      have hi1 : (k : Int) < (l.length : Int) := by omega
      have HU := Lib.hid hu
      clear hu
      obtain ⟨bl, ol, hqe, ⟨a0, a1, a2⟩, _, hbl⟩ := (HL1.out.below HBW.out).at HU.out
      subst hqe
      by_cases hm : Qn.May us a
      · have HM := Lib.hid (decide_eq_true hm)
        have HMY := Lib.hid hm
        clear hm
        go_wp2_with fail
        refine (rmay_any p cap us a _).mono ?_
        rintro e w9 ⟨rfl, hb9⟩
        rw [HM.out]
        have HB9 := Lib.hid (HBW.out.trans (hb9.mono HBW.out.size))
        have HB9E := Lib.hid (HBE.out.trans (hb9.mono HBE.out.size))
        clear hb9 a0 a1 a2
        go_wp2_with fail
        go_roundw
        case rel => exact ⟨k + 1, by simp, hlt, take_may HMAY.out HU.out HMY.out, HB9.out⟩
        case measure => simp only [intOf]; exact meas_lt hlt
      · have HM := Lib.hid (decide_eq_false hm)
        clear hm
        go_wp2_with fail
        refine (rmay_any p cap us a _).mono ?_
        rintro e w9 ⟨rfl, hb9⟩
        rw [HM.out]
        have HB9 := Lib.hid (HBW.out.trans (hb9.mono HBW.out.size))
        have HB9E := Lib.hid (HBE.out.trans (hb9.mono HBE.out.size))
        clear hb9 a0 a1 a2
        go_wp2_with fail
        go_ret2
        exact ⟨none, 0, rfl, rats_nil _, HB9E.out⟩
    · obtain rfl : k = l.length := by omega
      exact absurd (fun x hx => HMAY.out x (by rw [List.take_length]; exact hx)) HS.out
open Classical in
set_option maxRecDepth 100000 in
set_option maxHeartbeats 3200000 in
theorem rbas_go (p q : Option Addr) (cap capl : Nat) (us : List Qn.Un) (l : List Qn.Am) (vi : Int) (xs : List Qn.R) (c : Int) (res : Option (List Qn.R)) (w : World) (ht : Tab w p us) (hl : Amts w q l) (hva : Qn.validS us = (vi, true)) (hll : l.length ≤ 1000) (hag : Qn.AllGood us) (ham : ∀ a ∈ l, Qn.May us a) (hul : us.length ≤ 20) (hres : Qn.bask (Qn.zeros us.length) (Qn.bvf us l) = res) (hx : (res = none → xs = [] ∧ c = 2) ∧ (∀ o, res = some o → xs = o ∧ c = 0)) :
    Calls Try.prog 15 #[.slice p us.length cap, .slice q l.length capl] w (BOut w (xs) c) := by
  have HT0 := Lib.hid ht
  have HL0 := Lib.hid hl
  clear ht hl
  have HVA := Lib.hid hva
  clear hva
  have HAG := Lib.hid hag
  clear hag
  have HAM := Lib.hid ham
  clear ham
  have HRES := Lib.hid hres
  clear hres
  have HX := Lib.hid hx
  clear hx
  go_enter Try.func15, Try.ntmps15
  go_wp2_with fail
  refine (rqvalid_any p cap us _ (HT0.out.below (by repeat (first | exact Below.refl _ _ | assumption | refine below_drewN ?_ _ | refine Below.setCell ?_ (by first | (simp; done) | (simp; omega)) _ | refine Below.alloc ?_ (by first | (simp; done) | (simp; omega) | omega) _ | refine Below.drew ?_ | refine Below.trans ?_ (Below.mono (by assumption) (by first | (simp; done) | (simp; omega) | omega)))))).mono ?_
  rintro e w1 ⟨rfl, hb1⟩
  rw [HVA.out]
  simp only [RIB]
  have hz1 := hb1.size
  (try simp at hz1)
  have bb1 : Below w.heap.size w w1 := (by repeat (first | exact Below.refl _ _ | assumption | refine below_drewN ?_ _ | refine Below.setCell ?_ (by first | (simp; done) | (simp; omega)) _ | refine Below.alloc ?_ (by first | (simp; done) | (simp; omega) | omega) _ | refine Below.drew ?_ | refine Below.trans ?_ (Below.mono (by assumption) (by first | (simp; done) | (simp; omega) | omega))))
  have be1 : Below w.heap.size w w1 := bb1
  have HT1 := Lib.hid (HT0.out.below bb1)
  have HL1 := Lib.hid (HL0.out.below bb1)
  have BE1 := Lib.hid be1
  clear be1 bb1 hb1 HT0 HL0
  go_wp2_with fail
  go_loopw [8] (fun si wr => ∃ (k : Nat), si = .int .i64 k ∧ k ≤ l.length ∧ (∀ x ∈ l.take k, Qn.May us x) ∧ Below w1.heap.size w1 wr) (fun si _ => l.length - (intOf si).toNat)
  case atStart => exact ⟨0, rfl, Nat.zero_le _, fun x hx => by simp at hx, Below.refl _ _⟩
  case round =>
    obtain ⟨k, rfl, hk, hmay, hbw⟩ := hrel
    have HMAY := Lib.hid hmay
    have HBW := Lib.hid hbw
    have HBE := Lib.hid (BE1.out.trans (hbw.mono BE1.out.size))
    clear hmay hbw
    by_cases hlt : k < l.length
    · have hu : l[k]? = some l[k] := List.getElem?_eq_getElem hlt
      generalize l[k] = a at hu
      have hi0 : (0 : Int) ≤ (k : Int) := by omega
      have hi1 : (k : Int) < (l.length : Int) := by omega
      have HU := Lib.hid hu
      clear hu
      obtain ⟨bl, ol, hqe, ⟨a0, a1, a2⟩, _, hbl⟩ := (HL1.out.below HBW.out).at HU.out
      subst hqe
      have hm := HAM.out a (List.mem_of_getElem? HU.out)
      have HM := Lib.hid (decide_eq_true hm)
      have HMY := Lib.hid hm
      clear hm
      go_wp2_with fail
      refine (rmay_any p cap us a _).mono ?_
      rintro e w9 ⟨rfl, hb9⟩
      rw [HM.out]
      have HB9 := Lib.hid (HBW.out.trans (hb9.mono HBW.out.size))
      have HB9E := Lib.hid (HBE.out.trans (hb9.mono HBE.out.size))
      clear hb9 a0 a1 a2
      go_wp2_with fail
      go_roundw
      case rel => exact ⟨k + 1, by simp, hlt, take_may HMAY.out HU.out HMY.out, HB9.out⟩
      case measure => simp only [intOf]; exact meas_lt hlt
    · obtain rfl : k = l.length := by omega
      obtain ⟨wb, rfl⟩ : ∃ W, W = wr := ⟨_, rfl⟩
      have HTb := Lib.hid (HT1.out.below HBW.out)
      have HLb := Lib.hid (HL1.out.below HBW.out)
      clear HMAY HBW
      go_wp2_with fail
      go_loopw [9, 10] (fun sv si wr => ∃ (k : Nat) (v : Value), sv = v ∧ si = .int .i64 k ∧ k ≤ us.length ∧ OwnR wr wb.heap.size v (Qn.zeros k) ∧ Below wb.heap.size wb wr) (fun _ si _ => us.length - (intOf si).toNat)
      case atStart => exact ⟨0, _, rfl, rfl, Nat.zero_le _, World.ownsRow_nil _ _ _ _, Below.refl _ _⟩
      case round =>
        obtain ⟨k, _, rfl, rfl, hk, hown, hbw⟩ := hrel
        have HBW := Lib.hid hbw
        have HOX := Lib.hid hown
        clear hbw hown
        by_cases hlt : k < us.length
        · have hi0 : (0 : Int) ≤ (k : Int) := by omega
          have hi1 : (k : Int) < (us.length : Int) := by omega
          have HOX2 := Lib.hid (show wr.ownsRow wb.heap.size 31 2 _ (Qn.zeros k).length (cellsR (Qn.zeros k)) from HOX.out)
          have hzl : (Qn.zeros k).length = k := List.length_replicate
          obtain ⟨i0, hi, hz0, hz1, hz2⟩ := info_parts info_ratio
          have HI := Lib.hid hi
          have HY0 := Lib.hid hz0
          have HY1 := Lib.hid hz1
          have HY2 := Lib.hid hz2
          clear hi hz0 hz1 hz2
          go_wp2_with (at_builtin; refine wpList_append_own_at _ rfl (.tmp 41) (.tmp 43) 24 rfl wb.heap.size 31 i0 (.agg #[.int .i64 0, .int .i64 0]) 2 16 Try.underlying24 HI.out HY0.out HY1.out HY2.out rfl (by decide) _ _ _ rfl (HOX2.out.alloc _) ⟨wr.heap.size, 0, none⟩ 1 1 [.int .i64 0, .int .i64 1] rfl rfl (cell_two_new _ _ _ _) (by simp [Value.oneCell']) (by simp [maxLen]; omega) (by omega) (by have := HBW.out.size; simp; omega) ?_)
          intro x' w6 hox' hgx _ _
          have hox6 := own_snoc hzl.symm hox'
          rw [zeros_snoc] at hox6
          have hbx6 : Below wb.heap.size wb w6 := (HBW.out.alloc HBW.out.size _).grown hgx (by have := HBW.out.size; simp; omega) (fun r hr => (HOX2.out.lt r hr).1)
          have HOX6 := Lib.hid hox6
          have HB6 := Lib.hid hbx6
          clear hox' hgx hox6 hbx6 HOX HOX2
          go_wp2_with fail
          go_roundw
          case rel => exact ⟨k + 1, _, rfl, rfl, hlt, HOX6.out, HB6.out⟩
          case measure => simp only [intOf]; exact meas_lt hlt
        · obtain rfl : k = us.length := by omega
          go_wp2_with fail
          go_loopw [11] (fun si wr => ∃ (k : Nat) (o : List Qn.R), si = .int .i64 k ∧ k ≤ l.length ∧ o.length = us.length ∧ (∀ r ∈ o, Qn.RO r) ∧ OwnR wr wb.heap.size u9 o ∧ Below wb.heap.size wb wr ∧ Qn.bask o (Qn.bvf us (l.drop k)) = res) (fun si _ => l.length - (intOf si).toNat)
          case atStart => exact ⟨0, Qn.zeros us.length, rfl, Nat.zero_le _, List.length_replicate, Qn.zeros_ok _, HOX.out, HBW.out, HRES.out⟩
          case round =>
            obtain ⟨k, o, rfl, hk, hol, hok, hown, hbw, hbk⟩ := hrel
            have HOK := Lib.hid hok
            have HOW := Lib.hid hown
            have HBX := Lib.hid hbw
            have HBK := Lib.hid hbk
            clear hok hown hbw hbk HOX HBW
            by_cases hlt : k < l.length
            · have hu : l[k]? = some l[k] := List.getElem?_eq_getElem hlt
              have hd : l.drop k = l[k] :: l.drop (k + 1) := List.drop_eq_getElem_cons hlt
              generalize l[k] = a at hu hd
              have hi0 : (0 : Int) ≤ (k : Int) := by omega
              have hi1 : (k : Int) < (l.length : Int) := by omega
              have hm := HAM.out a (List.mem_of_getElem? hu)
              have hbin := Qn.base_in HAG.out hm.1
              have hsc := HBK.out
              rw [hd] at hsc
              have hsc2 : Qn.bask o (((Qn.un us a.1).base.toNat, a.2, (Qn.un us a.1).fac) :: Qn.bvf us (l.drop (k + 1))) = res := hsc
              have HRV := Lib.hid hm.2
              have hf1 := Qn.fac_un HAG.out hm.1
              obtain ⟨k1, hk1⟩ : ∃ k1 : Nat, a.1 = k1 := ⟨a.1.toNat, by have := hm.1.1; omega⟩
              have hu1 : us[k1]? = some (Qn.un us a.1) := by have := Qn.un_get hm.1; rw [hk1] at this ⊢; simpa using this
              have hj1 : (k1 : Int) < (us.length : Int) := by have := hm.1.2; omega
              have hj0 : (0 : Int) ≤ (k1 : Int) := by omega
              obtain ⟨t, htb⟩ : ∃ t : Nat, (Qn.un us a.1).base = t := ⟨(Qn.un us a.1).base.toNat, by have := hbin.1; omega⟩
              have hto : t < o.length := by have := hbin.2; omega
              rw [htb, Int.toNat_natCast] at hsc2
              generalize Qn.un us a.1 = u at hu1 hf1 htb hbin hsc2
              obtain ⟨r, hr⟩ : ∃ r, o[t]? = some r := ⟨_, List.getElem?_eq_getElem hto⟩
              have HR := Lib.hid hr
              have HRK := Lib.hid (HOK.out r (List.mem_of_getElem? hr))
              have HF1 := Lib.hid hf1
              have HU1 := Lib.hid hu1
              have HSK := Lib.hid hsc2
              have hti0 : (0 : Int) ≤ (t : Int) := by omega
              have hti1 : (t : Int) < (us.length : Int) := by omega
              have hti2 : (t : Int) < (o.length : Int) := by omega
              obtain ⟨bl, ol, hqe, ⟨a0, a1, a2⟩, _, hbl⟩ := (HLb.out.below HBX.out).at hu
              subst hqe
              rw [hk1] at a0
              obtain ⟨ub, uo, hpe, ⟨e0, e1, e2, e3, e4⟩, _, hub⟩ := (HTb.out.below HBX.out).at hu1
              subst hpe
              obtain ⟨x, y, e, hcv⟩ : ∃ x y e, Qn.conv a.2 u.fac (1, 1) = (x, y, e) := ⟨_, _, _, rfl⟩
              have HCV := Lib.hid hcv
              have HC2 := Lib.hid (conv_two HRV.out HF1.out Qn.fac_one)
              clear hu hd hm hsc hsc2 hf1 hu1 hr hcv hbin
              go_upto_region 18 with fail
              obtain ⟨wu, hwu⟩ : ∃ W, W = (wr.alloc (.cells #[.string ⟨u.nm.toArray⟩, .int .i64 u.kd, .int .i64 (t : Nat), .int .i64 u.fac.1, .int .i64 u.fac.2] 44)) := ⟨_, rfl⟩
              have hbu : Below wr.heap.size wr wu := by rw [hwu]; exact (by repeat (first | exact Below.refl _ _ | assumption | refine below_drewN ?_ _ | refine Below.setCell ?_ (by first | (simp; done) | (simp; omega)) _ | refine Below.alloc ?_ (by first | (simp; done) | (simp; omega) | omega) _ | refine Below.drew ?_ | refine Below.trans ?_ (Below.mono (by assumption) (by first | (simp; done) | (simp; omega) | omega))))
              have n0 : wu.cell? ⟨wr.heap.size, 2, none⟩ = some (.int .i64 (t : Nat)) := by rw [hwu]; go_simp
              have n1 : wu.cell? ⟨wr.heap.size, 3, none⟩ = some (.int .i64 u.fac.1) := by rw [hwu]; go_simp
              have n2 : wu.cell? ⟨wr.heap.size, 4, none⟩ = some (.int .i64 u.fac.2) := by rw [hwu]; go_simp
              have hlu : wr.heap.size < wu.heap.size := World.block_lt_of_cell? wu _ n0
              rw [← hwu]
              clear hwu
              have a0 := cell_keep hbu a0
              have a1 := cell_keep hbu a1
              have a2 := cell_keep hbu a2
              have hbl : bl < wu.heap.size := Nat.lt_of_lt_of_le hbl hbu.size
              have HBU := Lib.hid (HBX.out.trans (hbu.mono HBX.out.size))
              have HOU := Lib.hid (HOW.out.below hbu)
              clear hbu e0 e1 e2 e3 e4
              go_cut [13, 14] (fun s14 s15 wx => ∃ g : Nat, s14 = .pointer (some ⟨g, 0, none⟩) ∧ s15 = .int .i64 e ∧ wu.heap.size ≤ g ∧ wx.cell? ⟨g, 0, none⟩ = some (.int .i64 x) ∧ wx.cell? ⟨g, 1, none⟩ = some (.int .i64 y) ∧ Below wu.heap.size wu wx)
              case first =>
                go_region_held3 (fun w' => Below wu.heap.size wu w' ∧ ∀ b o, b < wu.heap.size → w'.cell? ⟨b, o, none⟩ = wu.cell? ⟨b, o, none⟩) (first | assumption | exact holdT (by assumption) (by assumption) | exact hold_new (by assumption) | exact hold_put (hold_put (by assumption) (by simp; omega)) (by simp; omega) | exact holdS (by repeat (first | exact Below.refl _ _ | assumption | refine below_drewN ?_ _ | refine Below.setCell ?_ (by first | (simp; done) | (simp; omega)) _ | refine Below.alloc ?_ (by first | (simp; done) | (simp; omega) | omega) _ | refine Below.drew ?_ | refine Below.trans ?_ (Below.mono (by assumption) (by first | (simp; done) | (simp; omega) | omega)))))
                  (first | (go_at_call 26; refine (scaled_walk a.2 u.fac (1, 1) _ HRV.out HF1.out Qn.fac_one).mono ?_; rintro e w' ⟨rfl, hb'⟩; rw [HCV.out]; simp only [RV]; have hzz := hb'.size; (try simp at hzz); have y0 := hb'.cell (p := ⟨wu.heap.size, 0, none⟩); have y1 := hb'.cell (p := ⟨wu.heap.size, 1, none⟩); have y2 := hb'.frozen (p := ⟨wu.heap.size, 0, none⟩); have y3 := hb'.frozen (p := ⟨wu.heap.size, 1, none⟩)))
                all_goals
                  go_wp2_with fail
                  go_meet
                  exact ⟨_, rfl, rfl, (by first | (simp; done) | (simp; omega) | omega), by go_simp, by go_simp, (by repeat (first | exact Below.refl _ _ | assumption | refine below_drewN ?_ _ | refine Below.setCell ?_ (by first | (simp; done) | (simp; omega)) _ | refine Below.alloc ?_ (by first | (simp; done) | (simp; omega) | omega) _ | refine Below.drew ?_ | refine Below.trans ?_ (Below.mono (by assumption) (by first | (simp; done) | (simp; omega) | omega))))⟩
              case rest =>
                obtain ⟨g, rfl, rfl, hge, q0, q1, hb9⟩ := hcut
                obtain ⟨w9, rfl⟩ : ∃ W, W = wc := ⟨_, rfl⟩
                have n0 := cell_keep hb9 n0
                have hg9 : g < w9.heap.size := World.block_lt_of_cell? w9 _ q0
                have hl9 : wr.heap.size < w9.heap.size := World.block_lt_of_cell? w9 _ n0
                have HB9 := Lib.hid (HBU.out.trans (hb9.mono HBU.out.size))
                have HO9 := Lib.hid (HOU.out.below hb9)
                clear hb9
                by_cases he : e = 0
                · subst he
                  have HRO := Lib.hid (show Qn.RO (x, y) by
                    rcases HC2.out with ⟨p1, q1, h1, h2⟩ | h1
                    · rw [HCV.out] at h1
                      simp only [Prod.mk.injEq] at h1
                      rw [h1.1, h1.2.1]
                      exact h2
                    · rw [HCV.out] at h1
                      simp at h1)
                  obtain ⟨p1, q2, e1, hss⟩ : ∃ p q e, Rt.addS r.1 r.2 x y = (p, q, e) := ⟨_, _, _, rfl⟩
                  have HSS := Lib.hid hss
                  have HSE := Lib.hid (add_err HRK.out HRO.out hss)
                  clear hss
                  go_upto_region 21 with fail
                  obtain ⟨rg, rcap, hv9, hrg, hrg9, d0, d1, e3, e4⟩ := HO9.out.at HR.out
                  rw [hol] at hv9
                  have HV9 := Lib.hid hv9
                  have HO99 := Lib.hid (show OwnR w9 wb.heap.size (.slice (some ⟨rg, 0, none⟩) us.length rcap) o by rw [← hv9]; exact HO9.out)
                  subst hv9
                  go_cut [14] (fun s15 wx => s15 = .int .i64 e1 ∧ OwnR wx wb.heap.size (.slice (some ⟨rg, 0, none⟩) us.length rcap) (o.set t (p1, q2)) ∧ Below wb.heap.size wb wx)
                  case first =>
                    go_region_with (go_at_call 34; refine (radd_any r.1 r.2 x y _).mono ?_; rintro e w' ⟨rfl, hb'⟩; rw [HSS.out]; simp only [RV]; have x0 := cell_keep hb' n0; have x00 := cell_keep hb' d0; have x01 := cell_keep hb' d1; have x2 := (hb'.frozen (p := ⟨rg, t * 2, none⟩) hrg9).trans e3; have x3 := (hb'.frozen (p := ⟨rg, t * 2 + 1, none⟩) hrg9).trans e4; have x4 := Nat.lt_of_lt_of_le hrg9 hb'.size; have x5 : OwnR w' wb.heap.size (.slice (some ⟨rg, 0, none⟩) us.length rcap) o := (by first | exact HO99.out.below hb' | exact OwnR.below (w := w9.drew) HO99.out hb'); have x6 : Below wb.heap.size wb w' := (by first | exact (Below.drew HB9.out).trans (hb'.mono HB9.out.size) | exact HB9.out.trans (hb'.mono HB9.out.size)))
                    all_goals
                      go_wp2_with fail
                      go_meet
                      exact ⟨rfl, OwnR.set x5 hto p1 q2, (x6.setCell (by first | (simp; done) | (simp; omega)) _).setCell (by first | (simp; done) | (simp; omega)) _⟩
                  case rest =>
                    obtain ⟨rfl, hset, hbf⟩ := hcut
                    have HSET := Lib.hid hset
                    have HBF := Lib.hid hbf
                    clear hset hbf d0 d1 e3 e4
                    rcases HSE.out with ⟨rfl, hpq⟩ | rfl
                    · have hacc := (bask_go HCV.out HR.out HSS.out).symm.trans HSK.out
                      have HAN := Lib.hid hacc
                      have HPQ := Lib.hid hpq
                      clear hacc hpq
                      go_wp2_with fail
                      go_roundw
                      case rel => exact ⟨k + 1, _, by simp, hlt, by rw [List.length_set]; exact hol, fun r hr => (List.mem_or_eq_of_mem_set hr).elim (HOK.out r) (fun e => e ▸ HPQ.out), HSET.out, HBF.out, HAN.out⟩
                      case measure => simp only [intOf]; exact meas_lt hlt
                    · have hnone := HSK.out.symm.trans (bask_far HCV.out HR.out HSS.out (by decide))
                      obtain ⟨rfl, rfl⟩ := HX.out.1 hnone
                      go_wp2_with fail
                      go_ret2
                      exact ⟨none, 0, rfl, rats_nil _, HBE.out.trans (HBF.out.mono HBE.out.size)⟩
                · have heb : (e != 0) = true := bne_iff_ne.2 he
                  have he2 : e = 2 := by
                    rcases HC2.out with ⟨p1, q1, h1, h2⟩ | h1
                    · rw [HCV.out] at h1
                      simp only [Prod.mk.injEq] at h1
                      exact absurd h1.2.2 he
                    · rw [HCV.out] at h1
                      simp only [Prod.mk.injEq] at h1
                      exact h1.2.2
                  have hnone : res = none := by
                    rw [← HSK.out]
                    exact bask_err (by simp only [HCV.out]; exact he)
                  subst he2
                  obtain ⟨rfl, rfl⟩ := HX.out.1 hnone
                  clear he hnone
                  go_wp2_with fail
                  go_ret2
                  exact ⟨none, 0, rfl, rats_nil _, HBE.out.trans (HB9.out.mono HBE.out.size)⟩
            · obtain rfl : k = l.length := by omega
              have hres : res = some o := by rw [← HBK.out, List.drop_eq_nil_of_le (Nat.le_refl _)]; rfl
              obtain ⟨rfl, rfl⟩ := HX.out.2 o hres
              obtain ⟨z, zc, hz, hrz⟩ := HOW.out.rats (fun r hr => ok64 (HOK.out r hr))
              have HRZ := Lib.hid hrz
              clear hrz hres
              subst hz
              go_wp2_with fail
              go_ret2
              exact ⟨z, zc, by rw [hol]; rfl, HRZ.out.below (by repeat (first | exact Below.refl _ _ | assumption | refine below_drewN ?_ _ | refine Below.setCell ?_ (by first | (simp; done) | (simp; omega)) _ | refine Below.alloc ?_ (by first | (simp; done) | (simp; omega) | omega) _ | refine Below.drew ?_ | refine Below.trans ?_ (Below.mono (by assumption) (by first | (simp; done) | (simp; omega) | omega)))), HBE.out.trans (HBX.out.mono HBE.out.size)⟩
end Go.Proofs.Ytpdknjbhnelidaa

/- LexerNumbers: the law's walk. -/
import Derived.Test.YtedeodeejpaioaaDoorLxN
namespace Go.Proofs.YtedeodeejpaioaaDoor
open Go.RowKit

namespace Lx
/-- what remains of the tokens behind k numbers -/
def Rest (minus : Bool) (us : List Nat) (k : Nat) (r : List (Int × List B × Int)) : Prop :=
  r = tokL minus (us.drop k) ∨ (minus = true ∧ us.drop k ≠ [] ∧ r = (3, [45], 0) :: tokL minus (us.drop k))
theorem Rest.step {minus : Bool} {us : List Nat} {k : Nat} {x : Int × List B × Int} {r : List (Int × List B × Int)} (h : Rest minus us k (x :: r)) :
    (∃ n, us[k]? = some n ∧ x = (2, decS n, (n : Int)) ∧ Rest minus us (k + 1) r) ∨ (minus = true ∧ x = (3, [45], 0) ∧ Rest minus us k r) := by
  rcases h with h | ⟨h1, h2, h3⟩
  · left
    cases hd : us.drop k with
    | nil => rw [hd] at h; cases h
    | cons n tl =>
      have hk : k < us.length := by
        have := congrArg List.length hd
        rw [List.length_drop, List.length_cons] at this
        omega
      have e := List.drop_eq_getElem_cons hk
      rw [hd] at e
      obtain ⟨e1, e2⟩ := List.cons.inj e
      refine ⟨n, by rw [e1]; exact List.getElem?_eq_getElem hk, ?_⟩
      rw [hd, tokL] at h
      split at h
      · rename_i h0
        obtain ⟨rfl, rfl⟩ := List.cons.inj h
        exact ⟨rfl, .inl (by rw [← e2, h0]; rfl)⟩
      · rename_i h0
        obtain ⟨rfl, hr⟩ := List.cons.inj h
        refine ⟨rfl, ?_⟩
        cases minus with
        | false => exact .inl (by rw [hr, ← e2]; rfl)
        | true => exact .inr ⟨rfl, by rw [← e2]; exact h0, by rw [hr, ← e2]; rfl⟩
  · right
    obtain ⟨rfl, rfl⟩ := List.cons.inj h3
    exact ⟨h1, rfl, .inl rfl⟩
theorem Rest.stop {minus : Bool} {us : List Nat} {k : Nat} (h : Rest minus us k []) : us.length ≤ k := by
  rcases h with h | ⟨_, _, h⟩
  · cases hd : us.drop k with
    | nil => exact List.drop_eq_nil_iff.1 hd
    | cons n tl =>
      rw [hd, tokL] at h
      split at h <;> cases h
  · cases h
theorem text_next {minus : Bool} {us : List Nat} {k n : Nat} (h : us[k]? = some n) : textS minus (us.take (k + 1)) = textS minus (us.take k) ++ ((if k = 0 then [] else [sepB minus]) ++ decS n) := by
  have hk := (List.getElem?_eq_some_iff.1 h).1
  rw [List.take_add_one, h]
  show textS minus (us.take k ++ [n]) = _
  rw [text_snoc]
  congr 2
  by_cases h0 : k = 0
  · subst h0; rfl
  · rw [if_neg h0, if_neg]
    intro h2
    have := congrArg List.length h2
    rw [List.length_take, List.length_nil] at this
    omega
theorem numbers_all (minus : Bool) (us : List Nat) (h : ∀ n ∈ us, n < 1000000000000) (hl : (textS minus us).length ≤ 1000) : ∃ l', lexAll (textS minus us) = (l', 0, 0) ∧ l'.map bare = tokL minus us ∧ l'.length ≤ 1000 := by
  have h0 := numbers_has minus us h 0
  obtain ⟨l', h1, h2⟩ := all_has (by omega) h0
  refine ⟨l', h1, h2, ?_⟩
  have h3 := lexU_count (textS minus us) 0
  rw [lexAll_small (by omega)] at h1
  rw [h1] at h3
  simp only at h3
  omega
end Lx
/-- numbers in memory -/
def Nums (w : World) (p : Option Addr) (l : List Nat) : Prop := l = [] ∨ ∃ b off, p = some ⟨b, off, none⟩ ∧ ∀ (j : Nat) x, l[j]? = some x → w.cell? ⟨b, off + j, none⟩ = some (.int .u64 (x : Int))
theorem Nums.below {w w' : World} {p : Option Addr} {l : List Nat} (h : Nums w p l) (hb : Below w.heap.size w w') : Nums w' p l :=
  h.imp id fun ⟨b, off, hp, h⟩ => ⟨b, off, hp, fun j t ht => cell_keep hb (h j t ht)⟩
theorem Nums.drewN {w : World} {p : Option Addr} {l : List Nat} (n : Nat) (h : Nums w p l) : Nums (w.drewN n) p l :=
  h.imp id fun ⟨b, off, hp, h⟩ => ⟨b, off, hp, fun j t ht => by have := h j t ht; go_simp⟩
theorem Nums.at {w : World} {p : Option Addr} {l : List Nat} (h : Nums w p l) {j x : Nat} (hu : l[j]? = some x) : ∃ b off, p = some ⟨b, off, none⟩ ∧ w.cell? ⟨b, off + j, none⟩ = some (.int .u64 (x : Int)) := by
  rcases h with rfl | ⟨b, off, hp, h⟩
  · simp at hu
  · exact ⟨b, off, hp, h j x hu⟩
/-- a number up to 999999999999 -/
def cutN (x : Nat) : Nat := x % 1000000000000
set_option maxRecDepth 100000 in
set_option maxHeartbeats 3200000 in
theorem num_long (p : Option Addr) (cap : Nat) (l : List Nat) (minus : Bool) (w : World) (hl : 40 < l.length) (hE : Env w) :
    Calls Tryd.prog 9 #[.slice p l.length cap, .bool minus] w fun e w' => e = .returned (.bool true) ∧ Below w.heap.size w w' := by
  have b1 : decide (40 < (l.length : Int)) = true := by simp; omega
  have HEV0 := Lib.hid hE
  clear hE
  go_enter Tryd.func9, Tryd.ntmps9
  go_wp2_with fail
  refine (head_any _ (HEV0.out.below (by repeat (first | exact Below.refl _ _ | assumption | refine below_drewN ?_ _ | refine Below.setCell ?_ (by first | (simp; done) | (simp; omega)) _ | refine Below.alloc ?_ (by first | (simp; done) | (simp; omega) | omega) _ | refine Below.drew ?_ | refine Below.trans ?_ (Below.mono (by assumption) (by first | (simp; done) | (simp; omega) | omega)))))).mono ?_
  rintro e w1 ⟨rfl, hb1⟩
  have hz1 := hb1.size
  (try simp at hz1)
  have bb1 : Below w.heap.size w w1 := (by repeat (first | exact Below.refl _ _ | assumption | refine below_drewN ?_ _ | refine Below.setCell ?_ (by first | (simp; done) | (simp; omega)) _ | refine Below.alloc ?_ (by first | (simp; done) | (simp; omega) | omega) _ | refine Below.drew ?_ | refine Below.trans ?_ (Below.mono (by assumption) (by first | (simp; done) | (simp; omega) | omega))))
  have BE1 := Lib.hid (show Below w.heap.size w w1 from bb1)
  have HEV1 := Lib.hid (HEV0.out.below bb1)
  clear hb1 bb1 HEV0
  go_wp2_with fail
  go_ret
  exact ⟨rfl, (by have q := BE1.out; repeat (first | exact q | refine Below.setCell ?_ (by first | (simp; done) | omega | (simp; omega)) _ | refine Below.alloc ?_ (by first | (simp; done) | omega | (simp; omega)) _ | refine below_drewN ?_ _ | refine Below.drew ?_))⟩
set_option maxRecDepth 100000 in
set_option maxHeartbeats 6400000 in
theorem num_short (p : Option Addr) (cap : Nat) (l : List Nat) (minus : Bool) (w : World) (hl : l.length ≤ 40) (hn : Nums w p l) (hE : Env w) :
    Calls Tryd.prog 9 #[.slice p l.length cap, .bool minus] w fun e w' => e = .returned (.bool true) ∧ Below w.heap.size w w' := by
  have b1 : decide (40 < (l.length : Int)) = false := by simp; omega
  have HN0 := Lib.hid hn
  clear hn
  have HEV0 := Lib.hid hE
  clear hE
  go_enter Tryd.func9, Tryd.ntmps9
  go_wp2_with fail
  refine (head_any _ (HEV0.out.below (by repeat (first | exact Below.refl _ _ | assumption | refine below_drewN ?_ _ | refine Below.setCell ?_ (by first | (simp; done) | (simp; omega)) _ | refine Below.alloc ?_ (by first | (simp; done) | (simp; omega) | omega) _ | refine Below.drew ?_ | refine Below.trans ?_ (Below.mono (by assumption) (by first | (simp; done) | (simp; omega) | omega)))))).mono ?_
  rintro e w1 ⟨rfl, hb1⟩
  have hz1 := hb1.size
  (try simp at hz1)
  have bb1 : Below w.heap.size w w1 := (by repeat (first | exact Below.refl _ _ | assumption | refine below_drewN ?_ _ | refine Below.setCell ?_ (by first | (simp; done) | (simp; omega)) _ | refine Below.alloc ?_ (by first | (simp; done) | (simp; omega) | omega) _ | refine Below.drew ?_ | refine Below.trans ?_ (Below.mono (by assumption) (by first | (simp; done) | (simp; omega) | omega))))
  have BE1 := Lib.hid (show Below w.heap.size w w1 from bb1)
  have HEV1 := Lib.hid (HEV0.out.below bb1)
  have HN1 := Lib.hid (HN0.out.below bb1)
  clear hb1 bb1 HEV0 HN0
  go_wp2_with fail
  go_loopw [6, 7] (fun s t wr => ∃ (k n : Nat) (u : List UInt8), s = .string ⟨u.toArray⟩ ∧ t = .int .i64 (k : Int) ∧ k ≤ l.length ∧ u = Lx.textS minus ((l.map cutN).take k) ∧ u.length ≤ 13 * k ∧ wr = w1.drewN n) (fun _ t _ => l.length - (intOf t).toNat)
  case atStart => exact ⟨0, 0, [], rfl, rfl, Nat.zero_le _, rfl, Nat.le_refl _, rfl⟩
  case round =>
    obtain ⟨k, n, u, rfl, rfl, hk, hu, hul, hw⟩ := hrel
    have HU := Lib.hid hu
    have NR := Lib.hid (show Nums wr p l by rw [hw]; exact HN1.out.drewN n)
    have HW := Lib.hid hw
    clear hu hw
    rcases Nat.lt_or_ge k l.length with hlt | hlt
    · have hx : l[k]? = some l[k] := List.getElem?_eq_getElem hlt
      generalize l[k] = x at hx
      obtain ⟨b, off, hpp, hc⟩ := NR.out.at hx
      subst hpp
      have hmx : (l.map cutN)[k]? = some (cutN x) := by rw [List.getElem?_map, hx]; rfl
      have hnx := Lx.text_next (minus := minus) hmx
      rw [← HU.out] at hnx
      obtain ⟨r, hr⟩ : ∃ r, cutN x = r := ⟨_, rfl⟩
      rw [hr] at hnx
      unfold cutN at hr
      have hr12 : r < 1000000000000 := by omega
      have hdl := Lx.decS_len r 12 (by omega) (by rw [show (10 : Nat) ^ 12 = 1000000000000 from rfl]; omega)
      obtain ⟨dd, hdd⟩ : ∃ d, Lx.decS r = d := ⟨_, rfl⟩
      rw [hdd] at hnx hdl
      have HDD := Lib.hid hdd
      have hus := text_size u
      have hds := text_size dd
      have hk1 := text_size [(45 : UInt8)]
      have hk2 := text_size [(32 : UInt8)]
      have b2 : decide ((k : Int) < (l.length : Int)) = true := by simp; omega
      have c1 : (k : Int) < (l.length : Int) := by omega
      have c2 : (0 : Int) ≤ (k : Int) := by omega
      have c3 : (x : Int) % 1000000000000 = (r : Int) := by omega
      have c4 : (x : Int).tmod 1000000000000 = (r : Int) := by rw [Int.tmod_eq_emod_of_nonneg (by omega)]; exact c3
      by_cases hk00 : k = 0
      · have b5 : decide (0 < (k : Int)) = false := by simp; omega
        have b6 : decide (0 < k) = false := by simp; omega
        rw [if_pos hk00, List.nil_append] at hnx
        have e1 := bytes_add u dd
        obtain ⟨z, hz⟩ : ∃ z, u ++ dd = z := ⟨_, rfl⟩
        rw [hz] at e1 hnx
        have hzl : z.length ≤ 13 * (k + 1) := by rw [← hz, List.length_append]; omega
        have HNX := Lib.hid hnx
        clear hx hmx hnx hr hdd hz hk00
        cases minus with
        | false =>
          go_wp2_with fail
          refine (decimal_any r (by omega) _).mono ?_
          rintro e w' ⟨rfl, nd, rfl⟩
          rw [HDD.out]
          go_wp2_with fail
          go_roundw
          case rel => exact ⟨k + 1, n + nd, z, rfl, by simp, by omega, HNX.out.symm, hzl, by rw [HW.out]; exact World.drewN_drewN _ _ _⟩
          case measure => simp [intOf]; omega
        | true =>
          go_wp2_with fail
          refine (decimal_any r (by omega) _).mono ?_
          rintro e w' ⟨rfl, nd, rfl⟩
          rw [HDD.out]
          go_wp2_with fail
          go_roundw
          case rel => exact ⟨k + 1, n + nd, z, rfl, by simp, by omega, HNX.out.symm, hzl, by rw [HW.out]; exact World.drewN_drewN _ _ _⟩
          case measure => simp [intOf]; omega
      · have b5 : decide (0 < (k : Int)) = true := by simp; omega
        have b6 : decide (0 < k) = true := by simp; omega
        rw [if_neg hk00] at hnx
        have hsp : ∃ c, Lx.sepB minus = c := ⟨_, rfl⟩
        cases minus with
        | false =>
          have e1 := bytes_add u [32]
          obtain ⟨y, hy⟩ : ∃ y, u ++ [32] = y := ⟨_, rfl⟩
          have e2 := bytes_add y dd
          obtain ⟨z, hz⟩ : ∃ z, y ++ dd = z := ⟨_, rfl⟩
          have hnx : Lx.textS false ((l.map cutN).take (k + 1)) = z := by rw [hnx, ← hz, ← hy, List.append_assoc]; rfl
          have hyl : y.length = u.length + 1 := by rw [← hy]; simp
          have hys := text_size y
          rw [hyl] at hys
          rw [hy] at e1
          rw [hz] at e2
          have hzl : z.length ≤ 13 * (k + 1) := by rw [← hz, List.length_append]; omega
          have HNX := Lib.hid hnx
          clear hx hmx hnx hr hdd hz hy hsp hk00 hyl
          go_wp2_with fail
          refine (decimal_any r (by omega) _).mono ?_
          rintro e w' ⟨rfl, nd, rfl⟩
          rw [HDD.out]
          go_wp2_with fail
          go_roundw
          case rel => exact ⟨k + 1, n + nd, z, rfl, by simp, by omega, HNX.out.symm, hzl, by rw [HW.out]; exact World.drewN_drewN _ _ _⟩
          case measure => simp [intOf]; omega
        | true =>
          have e1 := bytes_add u [45]
          obtain ⟨y, hy⟩ : ∃ y, u ++ [45] = y := ⟨_, rfl⟩
          have e2 := bytes_add y dd
          obtain ⟨z, hz⟩ : ∃ z, y ++ dd = z := ⟨_, rfl⟩
          have hnx : Lx.textS true ((l.map cutN).take (k + 1)) = z := by rw [hnx, ← hz, ← hy, List.append_assoc]; rfl
          have hyl : y.length = u.length + 1 := by rw [← hy]; simp
          have hys := text_size y
          rw [hyl] at hys
          rw [hy] at e1
          rw [hz] at e2
          have hzl : z.length ≤ 13 * (k + 1) := by rw [← hz, List.length_append]; omega
          have HNX := Lib.hid hnx
          clear hx hmx hnx hr hdd hz hy hsp hk00 hyl
          go_wp2_with fail
          refine (decimal_any r (by omega) _).mono ?_
          rintro e w' ⟨rfl, nd, rfl⟩
          rw [HDD.out]
          go_wp2_with fail
          go_roundw
          case rel => exact ⟨k + 1, n + nd, z, rfl, by simp, by omega, HNX.out.symm, hzl, by rw [HW.out]; exact World.drewN_drewN _ _ _⟩
          case measure => simp [intOf]; omega
    · have hkl : k = l.length := by omega
      have b2 : decide ((k : Int) < (l.length : Int)) = false := by simp; omega
      have b2n : decide (k < l.length) = false := by simp; omega
      have hu2 : u = Lx.textS minus (l.map cutN) := by rw [HU.out, List.take_of_length_le (by rw [List.length_map]; omega)]
      obtain ⟨m, hm1, hm2, hm3⟩ := Lx.numbers_all minus (l.map cutN) (fun n hn => by
        obtain ⟨x, _, rfl⟩ := List.mem_map.1 hn
        unfold cutN
        omega) (by rw [← hu2]; omega)
      rw [← hu2] at hm1
      have HM1 := Lib.hid hm1
      have HM2 := Lib.hid hm2
      have BER := Lib.hid (show Below w.heap.size w wr by rw [HW.out]; exact (by have q := BE1.out; repeat (first | exact q | refine Below.setCell ?_ (by first | (simp; done) | omega | (simp; omega)) _ | refine Below.alloc ?_ (by first | (simp; done) | omega | (simp; omega)) _ | refine below_drewN ?_ _ | refine Below.drew ?_)))
      have EVR := Lib.hid (show Env wr by rw [HW.out]; exact HEV1.out.below (by repeat (first | exact Below.refl _ _ | assumption | refine below_drewN ?_ _ | refine Below.setCell ?_ (by first | (simp; done) | (simp; omega)) _ | refine Below.alloc ?_ (by first | (simp; done) | (simp; omega) | omega) _ | refine Below.drew ?_ | refine Below.trans ?_ (Below.mono (by assumption) (by first | (simp; done) | (simp; omega) | omega)))))
      clear hm1 hm2 hu2 HW HU hkl HN1 HEV1 BE1
      go_wp2_with fail
      refine (lex_any u _ EVR.out (by omega)).mono ?_
      rintro e w2 ⟨⟨q, cap2, rfl, hc2, hx2, ht2⟩, hb2⟩
      rw [HM1.out] at hc2 ht2
      simp only [HM1.out]
      (try simp only at hc2 ht2)
      have N2 := Lib.hid (NR.out.below hb2)
      have T2 := Lib.hid ht2
      have BE2 := Lib.hid (BER.out.trans (hb2.mono BER.out.size))
      clear ht2 hb2 NR BER EVR
      go_wp2_with fail
      go_loopw [11, 12] (fun s t wq => ∃ (k i n : Nat), s = .int .i64 (k : Int) ∧ t = .int .i64 (i : Int) ∧ k ≤ l.length ∧ i ≤ m.length ∧ Lx.Rest minus (l.map cutN) k ((m.drop i).map Lx.bare) ∧ wq = w2.drewN n) (fun _ t _ => m.length - (intOf t).toNat)
      case atStart => exact ⟨0, 0, 0, rfl, rfl, Nat.zero_le _, Nat.zero_le _, .inl (by rw [List.drop_zero, List.drop_zero]; exact HM2.out), rfl⟩
      case round =>
        clear HM2
        obtain ⟨j, i, n, rfl, rfl, hj, hi, hrest, hw⟩ := hrel
        have NQ := Lib.hid (show Nums wr p l by rw [hw]; exact N2.out.drewN n)
        have TQ := Lib.hid (show Toks wr q m by rw [hw]; exact T2.out.drewN n)
        have HW := Lib.hid hw
        clear hw
        rcases Nat.lt_or_ge i m.length with hlt | hlt2
        · have hx : m[i]? = some m[i] := List.getElem?_eq_getElem hlt
          have hd : m.drop i = m[i] :: m.drop (i + 1) := List.drop_eq_getElem_cons hlt
          generalize m[i] = t at hx hd
          rw [hd, List.map_cons] at hrest
          obtain ⟨bt, ot, hqq, ⟨x0, x1, x2, x3⟩, _⟩ := TQ.out.at hx
          subst hqq
          have b7 : decide ((i : Int) < (m.length : Int)) = true := by simp; omega
          have c1 : (i : Int) < (m.length : Int) := by omega
          have c2 : (0 : Int) ≤ (i : Int) := by omega
          rcases hrest.step with ⟨v, hv, hbt, hr2⟩ | ⟨rfl, hbt, hr2⟩
          · have HR2 := Lib.hid hr2
            unfold Lx.bare at hbt
            simp only [Prod.mk.injEq] at hbt
            obtain ⟨h1, _, h3⟩ := hbt
            rw [h1] at x0
            rw [h3] at x2
            rw [List.getElem?_map, Option.map_eq_some_iff] at hv
            obtain ⟨y, hy, hyv⟩ := hv
            unfold cutN at hyv
            have hjl : j < l.length := (List.getElem?_eq_some_iff.1 hy).1
            obtain ⟨b, off, hpp, hc⟩ := NQ.out.at hy
            subst hpp
            have d1 : decide ((l.length : Int) ≤ (j : Int)) = false := by simp; omega
            have d1n : decide (l.length ≤ j) = false := by simp; omega
            have d2 : (j : Int) < (l.length : Int) := by omega
            have d3 : (0 : Int) ≤ (j : Int) := by omega
            have d4 : (y : Int) % 1000000000000 = (v : Int) := by omega
            have d5 : (y : Int).tmod 1000000000000 = (v : Int) := by rw [Int.tmod_eq_emod_of_nonneg (by omega)]; exact d4
            have d6 : v < 1000000000000 := by omega
            have d7 : IntKind.i64.wrap (v : Int) = (v : Int) := by simp [IntKind.wrap, IntKind.bits, IntKind.signed]; omega
            clear hrest hr2 hx hd hy hyv h1 h3
            go_wp2_with fail
            go_quiet (fail)
            go_wp2_with fail
            go_roundw
            case rel => exact ⟨j + 1, i + 1, _, by simp, by simp, by omega, by omega, HR2.out, by rw [HW.out]; exact World.drewN_drewN _ _ _⟩
            case measure => simp [intOf]; omega
          · have HR2 := Lib.hid hr2
            unfold Lx.bare at hbt
            simp only [Prod.mk.injEq] at hbt
            obtain ⟨h1, h2, h3⟩ := hbt
            rw [h1] at x0
            rw [h2] at x1
            rw [h3] at x2
            clear hrest hr2 hx hd h1 h2 h3
            go_wp2_with fail
            go_roundw
            case rel => exact ⟨j, i + 1, n, rfl, by simp, by omega, by omega, HR2.out, HW.out⟩
            case measure => simp [intOf]; omega
        · have b7 : decide ((i : Int) < (m.length : Int)) = false := by simp; omega
          rw [List.drop_eq_nil_of_le hlt2] at hrest
          have hst := Lx.Rest.stop hrest
          rw [List.length_map] at hst
          have hjl : j = l.length := by omega
          subst hjl
          clear hrest hst
          go_wp2_with fail
          go_ret
          exact ⟨rfl, by rw [HW.out]; exact (by have q := BE2.out; repeat (first | exact q | refine Below.setCell ?_ (by first | (simp; done) | omega | (simp; omega)) _ | refine Below.alloc ?_ (by first | (simp; done) | omega | (simp; omega)) _ | refine below_drewN ?_ _ | refine Below.drew ?_))⟩
theorem num_law (p : Option Addr) (cap : Nat) (l : List Nat) (minus : Bool) (w : World) (hn : Nums w p l) (hE : Env w) : Calls Tryd.prog 9 #[.slice p l.length cap, .bool minus] w fun e w' => e = .returned (.bool true) ∧ Below w.heap.size w w' := by
  rcases Nat.lt_or_ge 40 l.length with hl | hl
  · exact num_long p cap l minus w hl hE
  · exact num_short p cap l minus w hl hn hE
end Go.Proofs.YtedeodeejpaioaaDoor

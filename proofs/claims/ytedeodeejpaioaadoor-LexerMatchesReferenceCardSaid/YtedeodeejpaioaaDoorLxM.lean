/- The reference implementation: Same, Alike, Text, Gaps, Decimal. -/
import Derived.Test.YtedeodeejpaioaaDoorLxL
import Derived.Laws.IdiomStrings
import Derived.RegionCalls
import Derived.Deep.RegionHeld3
namespace Go.Proofs.YtedeodeejpaioaaDoor
open Go.RowKit

theorem KCell.drewN {w : World} {b o : Nat} {t : Lx.Tk} (n : Nat) (h : KCell w b o t) : KCell (w.drewN n) b o t := by
  obtain ⟨h1, h2, h3, h4⟩ := h
  exact ⟨by go_simp, by go_simp, by go_simp, by go_simp⟩
theorem Toks.drewN {w : World} {p : Option Addr} {l : List Lx.Tk} (n : Nat) (h : Toks w p l) : Toks (w.drewN n) p l := h.imp id fun ⟨b, off, hp, h⟩ => ⟨b, off, hp, fun j t ht => (h j t ht).drewN n⟩
set_option maxRecDepth 100000 in
set_option maxHeartbeats 3200000 in
theorem alike_true (p q : Option Addr) (c d : Nat) (a b : List Lx.Tk) (w : World) (hp : Toks w p a) (hq : Toks w q b) (hn : a.length = b.length) (hm : a.length ≤ 4294967280) (ha : ∀ (k : Nat) x y, a[k]? = some x → b[k]? = some y → Lx.bare x = Lx.bare y) :
    Calls Tryd.prog 16 #[.slice p a.length c, .slice q b.length d] w fun e w' => e = .returned (.bool true) ∧ ∃ n, w' = w.drewN n := by
  have HP := Lib.hid hp
  have HQ := Lib.hid hq
  have HA := Lib.hid ha
  have HN := Lib.hid hn
  have b0 : ((a.length : Int) != (b.length : Int)) = false := by simp [hn]
  clear hp hq ha hn
  go_enter Tryd.func16, Tryd.ntmps16
  go_wp2_with fail
  go_loopw [5] (fun t wr => ∃ k n : Nat, t = .int .i64 (k : Int) ∧ k ≤ a.length ∧ wr = w.drewN n) (fun t _ => a.length - (intOf t).toNat)
  case atStart => exact ⟨0, 0, rfl, Nat.zero_le _, rfl⟩
  case round =>
    obtain ⟨k, n, rfl, hk, rfl⟩ := hrel
    rcases Nat.lt_or_ge k a.length with hlt | hlt
    · have hx : a[k]? = some a[k] := List.getElem?_eq_getElem hlt
      generalize a[k] = x at hx
      have hy : b[k]? = some (b[k]'(by have := HN.out; omega)) := List.getElem?_eq_getElem _
      generalize b[k]'_ = y at hy
      have hxy := HA.out k x y hx hy
      obtain ⟨bx, ox, rfl, ⟨x0, x1, x2, x3⟩, _⟩ := HP.out.at hx
      obtain ⟨by_, oy, rfl, ⟨y0, y1, y2, y3⟩, _⟩ := HQ.out.at hy
      have b1 : decide ((k : Int) < (a.length : Int)) = true := by simp; omega
      have k1 : (k : Int) < (a.length : Int) := by omega
      have k2 : (k : Int) < (b.length : Int) := by have := HN.out; omega
      have k0 : (0 : Int) ≤ (k : Int) := by omega
      unfold Lx.bare at hxy
      simp only [Prod.mk.injEq] at hxy
      obtain ⟨h1, h2, h3⟩ := hxy
      rw [← h1] at y0
      rw [← h2] at y1
      rw [← h3] at y2
      clear hx hy h1 h2 h3 y3 x3
      go_wp2_with fail
      go_quiet (fail)
      go_wp2_with fail
      go_roundw
      case rel => exact ⟨k + 1, _, by simp, by omega, by first | exact World.drewN_drewN _ _ _ | rfl⟩
      case measure => simp [intOf]; omega
    · have b1 : decide ((k : Int) < (a.length : Int)) = false := by simp; omega
      go_wp2_with fail
      go_ret
      exact ⟨rfl, n, rfl⟩
set_option maxRecDepth 100000 in
set_option maxHeartbeats 3200000 in
theorem same_true (p q : Option Addr) (c d : Nat) (a b : List Lx.Tk) (m : Nat) (w : World) (hp : Toks w p a) (hq : Toks w q b) (hn : a.length = b.length) (hm : a.length ≤ 4294967280) (ha : ∀ (k : Nat) x y, a[k]? = some x → b[k]? = some y → Lx.bare x = Lx.bare y ∧ x.off + m = y.off) (ho : ∀ x ∈ a, x.off ≤ 4294967280) (hm2 : m ≤ 4294967280) :
    Calls Tryd.prog 13 #[.slice p a.length c, .int .i64 (m : Int), .slice q b.length d] w fun e w' => e = .returned (.bool true) ∧ ∃ n, w' = w.drewN n := by
  have HP := Lib.hid hp
  have HQ := Lib.hid hq
  have HA := Lib.hid ha
  have HN := Lib.hid hn
  have HO := Lib.hid ho
  have b0 : ((a.length : Int) != (b.length : Int)) = false := by simp [hn]
  clear hp hq ha hn ho
  go_enter Tryd.func13, Tryd.ntmps13
  go_wp2_with fail
  go_loopw [7] (fun t wr => ∃ k n : Nat, t = .int .i64 (k : Int) ∧ k ≤ a.length ∧ wr = w.drewN n) (fun t _ => a.length - (intOf t).toNat)
  case atStart => exact ⟨0, 0, rfl, Nat.zero_le _, rfl⟩
  case round =>
    obtain ⟨k, n, rfl, hk, rfl⟩ := hrel
    rcases Nat.lt_or_ge k a.length with hlt | hlt
    · have hx : a[k]? = some a[k] := List.getElem?_eq_getElem hlt
      generalize a[k] = x at hx
      have hy : b[k]? = some (b[k]'(by have := HN.out; omega)) := List.getElem?_eq_getElem _
      generalize b[k]'_ = y at hy
      have hxy := HA.out k x y hx hy
      obtain ⟨bx, ox, rfl, ⟨x0, x1, x2, x3⟩, _⟩ := HP.out.at hx
      obtain ⟨by_, oy, rfl, ⟨y0, y1, y2, y3⟩, _⟩ := HQ.out.at hy
      have b1 : decide ((k : Int) < (a.length : Int)) = true := by simp; omega
      have k1 : (k : Int) < (a.length : Int) := by omega
      have k2 : (k : Int) < (b.length : Int) := by have := HN.out; omega
      have k0 : (0 : Int) ≤ (k : Int) := by omega
      have hof := HO.out x (List.mem_of_getElem? hx)
      obtain ⟨hxy, h4⟩ := hxy
      unfold Lx.bare at hxy
      simp only [Prod.mk.injEq] at hxy
      obtain ⟨h1, h2, h3⟩ := hxy
      rw [← h1] at y0
      rw [← h2] at y1
      rw [← h3] at y2
      have h5 : (y.off : Int) = (x.off : Int) + (m : Int) := by omega
      rw [h5] at y3
      clear hx hy h1 h2 h3 h4 h5
      go_wp2_with fail
      go_quiet (fail)
      go_wp2_with fail
      go_roundw
      case rel => exact ⟨k + 1, _, by simp, by omega, by first | exact World.drewN_drewN _ _ _ | rfl⟩
      case measure => simp [intOf]; omega
    · have b1 : decide ((k : Int) < (a.length : Int)) = false := by simp; omega
      go_wp2_with fail
      go_ret
      exact ⟨rfl, n, rfl⟩
/-- the texts of tokens with a text behind each -/
def textL (sep : List UInt8) (l : List Lx.Tk) : List UInt8 := l.flatMap fun t => t.tx ++ sep
theorem text_snoc2 (sep : List UInt8) (l : List Lx.Tk) (t : Lx.Tk) : textL sep (l ++ [t]) = textL sep l ++ (t.tx ++ sep) := by
  unfold textL
  rw [List.flatMap_append]
  simp
theorem bytes_add (a b : List UInt8) : (⟨a.toArray⟩ : ByteArray) ++ ⟨b.toArray⟩ = ⟨(a ++ b).toArray⟩ := by
  apply ByteArray.ext
  simp
theorem textL_len (sep : List UInt8) (l : List Lx.Tk) (k : Nat) : (textL sep (l.take k)).length ≤ (textL sep l).length := by
  conv => rhs; rw [← List.take_append_drop k l]
  unfold textL
  rw [List.flatMap_append, List.length_append]
  omega
set_option maxRecDepth 100000 in
set_option maxHeartbeats 3200000 in
theorem text_any (p : Option Addr) (c : Nat) (a : List Lx.Tk) (sep : List UInt8) (w : World) (hp : Toks w p a) (hm : a.length ≤ 4294967280) (hl : (textL sep a).length ≤ 4294967280) (hsl : sep.length ≤ 4294967280) :
    Calls Tryd.prog 15 #[.slice p a.length c, .string ⟨sep.toArray⟩] w fun e w' => e = .returned (.string ⟨(textL sep a).toArray⟩) ∧ w = w' := by
  have HP := Lib.hid hp
  have hss := text_size sep
  clear hp
  go_enter Tryd.func15, Tryd.ntmps15
  go_wp2_with fail
  go_loopw [5, 6] (fun s t wr => ∃ k : Nat, s = .string ⟨(textL sep (a.take k)).toArray⟩ ∧ t = .int .i64 (k : Int) ∧ k ≤ a.length ∧ wr = w) (fun _ t _ => a.length - (intOf t).toNat)
  case atStart => exact ⟨0, rfl, rfl, Nat.zero_le _, rfl⟩
  case round =>
    obtain ⟨k, rfl, rfl, hk, rfl⟩ := hrel
    rcases Nat.lt_or_ge k a.length with hlt | hlt
    · have hx : a[k]? = some a[k] := List.getElem?_eq_getElem hlt
      generalize a[k] = x at hx
      obtain ⟨bx, ox, rfl, ⟨x0, x1, x2, x3⟩, _⟩ := HP.out.at hx
      have ht : a.take (k + 1) = a.take k ++ [x] := by rw [List.take_add_one, hx]; rfl
      have h1 := textL_len sep a (k + 1)
      rw [ht, text_snoc2] at h1
      obtain ⟨u, hu⟩ : ∃ u, textL sep (a.take k) = u := ⟨_, rfl⟩
      rw [hu] at h1 ⊢
      have HT := Lib.hid (show textL sep (a.take (k + 1)) = u ++ (x.tx ++ sep) by rw [ht, text_snoc2, hu])
      have hus := text_size u
      have hxs := text_size x.tx
      have huxs := text_size (u ++ x.tx)
      rw [List.length_append, List.length_append] at h1
      rw [List.length_append] at huxs
      have b1 : decide ((k : Int) < (a.length : Int)) = true := by simp; omega
      have e1 := bytes_add u x.tx
      have e2 := bytes_add (u ++ x.tx) sep
      clear hx ht hu
      go_wp2_with fail
      go_roundw
      case rel => exact ⟨k + 1, by rw [HT.out], by simp, by omega, by first | rfl | trivial⟩
      case measure => simp [intOf]; omega
    · have b1 : decide ((k : Int) < (a.length : Int)) = false := by simp; omega
      have HT := Lib.hid (show a.take k = a from List.take_of_length_le hlt)
      go_wp2_with fail
      go_ret
      exact ⟨by rw [HT.out]; rfl, by first | rfl | trivial⟩
set_option maxRecDepth 100000 in
set_option maxHeartbeats 800000 in
theorem gaps_any (s : List UInt8) (w : World) (hl : s.length ≤ 4294967280) :
    Calls Tryd.prog 14 #[.string ⟨s.toArray⟩] w fun e w' => e = .returned (.bool (decide (Lx.gapN s false = s.length))) ∧ w = w' := by
  have hs := text_size s
  by_cases h : Lx.gapN s false = s.length
  · have H := Lib.hid h
    rw [h, decide_eq_true rfl]
    clear h
    go_enter Tryd.func14, Tryd.ntmps14
    go_wp2_with fail
    refine (rgap_zero s _ hl).mono ?_
    rintro e w' ⟨rfl, rfl⟩
    rw [H.out]
    go_wp2_with fail
    go_ret
    exact ⟨ret_bool (by simp), by first | rfl | trivial⟩
  · rw [decide_eq_false h]
    have hb : (((Lx.gapN s false : Nat) : Int) == (s.length : Int)) = false := by simp; omega
    clear h
    go_enter Tryd.func14, Tryd.ntmps14
    go_wp2_with fail
    refine (rgap_zero s _ hl).mono ?_
    rintro e w' ⟨rfl, rfl⟩
    go_wp2_with fail
    go_ret
    exact ⟨ret_bool (by simp), by first | rfl | trivial⟩
theorem digit_cut (d : Nat) (h : d < 10) : (⟨#[48, 49, 50, 51, 52, 53, 54, 55, 56, 57]⟩ : ByteArray).extract d (d + 1) = ⟨[Lx.dg d].toArray⟩ := by
  rcases (by omega : d = 0 ∨ d = 1 ∨ d = 2 ∨ d = 3 ∨ d = 4 ∨ d = 5 ∨ d = 6 ∨ d = 7 ∨ d = 8 ∨ d = 9) with rfl | rfl | rfl | rfl | rfl | rfl | rfl | rfl | rfl | rfl <;> rfl
set_option maxRecDepth 100000 in
set_option maxHeartbeats 1600000 in
theorem decimal_any (n : Nat) (hn : n ≤ 1000000000000) : ∀ (w : World), Calls Tryd.prog 17 #[.int .i64 (n : Int)] w fun e w' => e = .returned (.string ⟨(Lx.decS n).toArray⟩) ∧ ∃ m, w' = w.drewN m := by
  induction n using Nat.strongRecOn with
  | ind n ih =>
    intro w
    rcases Nat.lt_or_ge n 10 with h | h
    · have b1 : decide ((n : Int) < 10) = true := by simp; omega
      have ht := digit_cut n h
      have e1 : ((n : Int) + 1).toNat = n + 1 := by omega
      have HD := Lib.hid (Lx.decS_small h)
      clear ih
      go_enter Tryd.func17, Tryd.ntmps17
      go_wp2_with fail
      go_ret
      exact ⟨by rw [HD.out]; rfl, 0, rfl⟩
    · have IH := Lib.hid (ih (n / 10) (by omega) (by omega))
      have b1 : decide ((n : Int) < 10) = false := by simp; omega
      obtain ⟨r, hr⟩ : ∃ r : Nat, n % 10 = r := ⟨_, rfl⟩
      have hr10 : r < 10 := by omega
      have ht := digit_cut r hr10
      have e1 : ((r : Int) + 1).toNat = r + 1 := by omega
      have e2 : (n : Int) % 10 = (r : Int) := by omega
      have e4 : (n : Int).tmod 10 = (r : Int) := by rw [Int.tmod_eq_emod_of_nonneg (by omega)]; exact e2
      obtain ⟨q, hq⟩ : ∃ q : Nat, n / 10 = q := ⟨_, rfl⟩
      have e3 : (n : Int) / 10 = (q : Int) := by omega
      have e5 : (n : Int).tdiv 10 = (q : Int) := by rw [Int.tdiv_eq_ediv_of_nonneg (by omega)]; exact e3
      have HD := Lib.hid (show Lx.decS n = Lx.decS q ++ [Lx.dg r] by rw [Lx.decS_big (by omega), hr, hq])
      rw [hq] at IH
      have hlen := Lx.decS_len q 12 (by omega) (by rw [show (10 : Nat) ^ 12 = 1000000000000 from rfl]; omega)
      obtain ⟨u, hu⟩ : ∃ u, Lx.decS q = u := ⟨_, rfl⟩
      rw [hu] at IH hlen
      have HU := Lib.hid hu
      have hus := text_size u
      have hds := text_size [Lx.dg r]
      have ea := bytes_add u [Lx.dg r]
      clear ih hr hq hu
      go_enter Tryd.func17, Tryd.ntmps17
      go_wp2_with fail
      go_quiet (first | exact Calls.quiet_of (IH.out _))
      go_wp2_with fail
      go_ret
      exact ⟨by rw [HD.out, HU.out]; rfl, _, rfl⟩
end Go.Proofs.YtedeodeejpaioaaDoor

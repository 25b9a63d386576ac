/- The reference's Convert, all cases. -/
import Derived.Test.YtpdknjbhnelidaaQtZa
namespace Go.Proofs.Ytpdknjbhnelidaa
open Go.RowKit

open Classical in
theorem rconv_any (p : Option Addr) (cap : Nat) (us : List Qn.Un) (a : Qn.Am) (tt : Int) (w : World) (ht : Tab w p us) :
    Calls Try.prog 11 #[.slice p us.length cap, .agg #[.int .i64 a.1, .int .i64 a.2.1, .int .i64 a.2.2], .int .i64 tt] w fun e w' => e = .returned (RA (Qn.convertS us a tt)) ∧ Below w.heap.size w w' := by
  obtain ⟨vi, vb, hva⟩ : ∃ vi vb, Qn.validS us = (vi, vb) := ⟨_, _, rfl⟩
  have no : ¬ (Qn.AllGood us ∧ Qn.May us a ∧ Qn.In us tt) → Qn.convertS us a tt = (0, (0, 0), 1) := fun h => by
    unfold Qn.convertS
    rw [if_neg h]
  cases vb
  · rw [no (fun k => by rw [Qn.valid_yes k.1] at hva; simp at hva)]
    exact rconv_bad p cap us a tt vi w ht hva
  have hag : Qn.AllGood us := (Qn.valid_iff us).1 (by rw [hva])
  by_cases hm : Qn.May us a
  rotate_left
  · rw [no (fun k => hm k.2.1)]
    exact rconv_may p cap us a tt vi w ht hva (decide_eq_false hm)
  have hmt := decide_eq_true hm
  by_cases h0 : tt < 0
  · rw [no (fun k => by have := k.2.2.1; omega)]
    exact rconv_low p cap us a tt vi w ht hva hmt h0
  by_cases h1 : (us.length : Int) ≤ tt
  · rw [no (fun k => by have := k.2.2.2; omega)]
    exact rconv_high p cap us a tt vi w ht hva hmt (by omega) h1
  obtain ⟨a1, v⟩ := a
  obtain ⟨k1, rfl⟩ : ∃ k : Nat, a1 = k := ⟨a1.toNat, by have := hm.1.1; simp only at this; omega⟩
  obtain ⟨k2, rfl⟩ : ∃ k : Nat, tt = k := ⟨tt.toNat, by omega⟩
  have hin2 : Qn.In us (k2 : Int) := ⟨by omega, by omega⟩
  have hu1 : us[k1]? = some (Qn.un us k1) := by simpa using Qn.un_get hm.1
  have hu2 : us[k2]? = some (Qn.un us k2) := by simpa using Qn.un_get hin2
  have yes : Qn.convertS us ((k1 : Int), v) k2 = if (Qn.un us k1).base = (Qn.un us k2).base then Qn.amt k2 (Qn.conv v (Qn.un us k1).fac (Qn.un us k2).fac) else (0, (0, 0), 11) := by
    unfold Qn.convertS
    rw [if_pos ⟨hag, hm, hin2⟩]
  rw [yes]
  by_cases hb : (Qn.un us k1).base = (Qn.un us k2).base
  rotate_left
  · rw [if_neg hb]
    exact rconv_kind p cap us k1 k2 v _ _ vi w ht hva hmt hu1 hu2 (bne_iff_ne.2 hb)
  rw [if_pos hb]
  obtain ⟨x, y, e, hc⟩ : ∃ x y e, Qn.conv v (Qn.un us k1).fac (Qn.un us k2).fac = (x, y, e) := ⟨_, _, _, rfl⟩
  rw [hc]
  exact rconv_go p cap us k1 k2 v _ _ vi x y e _ w ht hva hmt hu1 hu2 (bne_eq_false_iff_eq.2 hb) hm.2 (Qn.fac_un hag hm.1) (Qn.fac_un hag hin2) hc ⟨fun k => if_pos k, fun k => if_neg k⟩
end Go.Proofs.Ytpdknjbhnelidaa

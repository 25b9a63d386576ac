/- The reference's Sum and Basket, all cases. -/
import Derived.Test.YtpdknjbhnelidaaQtZf
import Derived.Test.YtpdknjbhnelidaaQtZd
namespace Go.Proofs.Ytpdknjbhnelidaa
open Go.RowKit

open Classical in
theorem rsum_any (p q : Option Addr) (cap capl : Nat) (us : List Qn.Un) (l : List Qn.Am) (tt : Int) (w : World) (ht : Tab w p us) (hl : Amts w q l) (hll : l.length ≤ 1000) :
    Calls Try.prog 13 #[.slice p us.length cap, .slice q l.length capl, .int .i64 tt] w fun e w' => e = .returned (RA (Qn.sumS us l tt)) ∧ Below w.heap.size w w' := by
  obtain ⟨vi, vb, hva⟩ : ∃ vi vb, Qn.validS us = (vi, vb) := ⟨_, _, rfl⟩
  have no : ¬ (Qn.AllGood us ∧ (∀ a ∈ l, Qn.May us a) ∧ Qn.In us tt) → Qn.sumS us l tt = (0, (0, 0), 1) := fun h => by
    unfold Qn.sumS
    rw [if_neg h]
  cases vb
  · rw [no (fun k => by rw [Qn.valid_yes k.1] at hva; simp at hva)]
    exact rsum_bad p q cap capl us l tt vi w ht hl hva
  have hag : Qn.AllGood us := (Qn.valid_iff us).1 (by rw [hva])
  by_cases h0 : tt < 0
  · rw [no (fun k => by have := k.2.2.1; omega)]
    exact rsum_low p q cap capl us l tt vi w ht hl hva h0
  by_cases h1 : (us.length : Int) ≤ tt
  · rw [no (fun k => by have := k.2.2.2; omega)]
    exact rsum_high p q cap capl us l tt vi w ht hl hva (by omega) h1
  obtain ⟨k2, rfl⟩ : ∃ k : Nat, tt = k := ⟨tt.toNat, by omega⟩
  have hin2 : Qn.In us (k2 : Int) := ⟨by omega, by omega⟩
  have hu2 : us[k2]? = some (Qn.un us k2) := by simpa using Qn.un_get hin2
  by_cases hstop : (∀ a ∈ l, Qn.May us a) → l.any (othB us k2) = true
  · refine rsum_stop p q cap capl us l k2 _ vi _ w ht hl hva hu2 hin2 hll (fun a ha hm => no (fun k => hm (k.2.1 a ha))) (fun hall => ⟨hstop hall, ?_⟩)
    unfold Qn.sumS
    rw [if_pos ⟨hag, hall, hin2⟩, if_neg]
    intro k
    obtain ⟨a, h1, h2⟩ := List.any_eq_true.1 (hstop hall)
    unfold othB at h2
    simp [k a h1] at h2
  · have hall : ∀ a ∈ l, Qn.May us a := Classical.byContradiction fun k => hstop (fun h => absurd h k)
    have ho : l.any (othB us k2) = false := by
      cases ha : l.any (othB us k2) with
      | false => rfl
      | true => exact absurd (fun _ => ha) hstop
    have hsame : ∀ a ∈ l, (Qn.un us a.1).base = (Qn.un us (k2 : Int)).base := by
      intro a h1
      have := List.any_eq_false.1 ho a h1
      unfold othB at this
      simpa using this
    obtain ⟨x, y, e, hs⟩ : ∃ x y e, Qn.sumC (Qn.un us (k2 : Int)).fac (0, 1) (Qn.vf us l) = (x, y, e) := ⟨_, _, _, rfl⟩
    refine rsum_go p q cap capl us l k2 _ vi x y e _ w ht hl hva hu2 hin2 hll hag hall ho (Qn.fac_un hag hin2) hs ?_
    unfold Qn.sumS
    rw [if_pos ⟨hag, hall, hin2⟩, if_pos hsame, hs]
open Classical in
/-- the reference's Basket, in one form -/
theorem rbasket_gen (p q : Option Addr) (cap capl : Nat) (us : List Qn.Un) (l : List Qn.Am) (xs : List Qn.R) (x : Option (List Qn.R)) (c : Int) (w : World) (ht : Tab w p us) (hl : Amts w q l) (hll : l.length ≤ 1000) (hx : Qn.basketS us l = (x, c)) (hxs : xs = x.getD []) :
    Calls Try.prog 15 #[.slice p us.length cap, .slice q l.length capl] w (BOut w xs c) := by
  obtain ⟨vi, vb, hva⟩ : ∃ vi vb, Qn.validS us = (vi, vb) := ⟨_, _, rfl⟩
  have no : ¬ (Qn.AllGood us ∧ (∀ a ∈ l, Qn.May us a)) → xs = [] ∧ c = 1 := fun h => by
    unfold Qn.basketS at hx
    rw [if_neg h, Prod.mk.injEq] at hx
    obtain ⟨rfl, rfl⟩ := hx
    exact ⟨hxs, rfl⟩
  cases vb
  · obtain ⟨rfl, rfl⟩ := no (fun k => by rw [Qn.valid_yes k.1] at hva; simp at hva)
    exact rbas_bad p q cap capl us l vi w ht hl hva
  have hag : Qn.AllGood us := (Qn.valid_iff us).1 (by rw [hva])
  by_cases hall : ∀ a ∈ l, Qn.May us a
  rotate_left
  · obtain ⟨rfl, rfl⟩ := no (fun k => hall k.2)
    exact rbas_may p q cap capl us l vi w ht hl hva hall hll
  refine rbas_go p q cap capl us l vi xs c _ w ht hl hva hll hag hall (good_len hag) rfl ?_
  unfold Qn.basketS at hx
  rw [if_pos ⟨hag, hall⟩] at hx
  constructor
  · intro h
    rw [h] at hx
    simp only [Prod.mk.injEq] at hx
    obtain ⟨rfl, rfl⟩ := hx
    exact ⟨hxs, rfl⟩
  · intro o h
    rw [h] at hx
    simp only [Prod.mk.injEq] at hx
    obtain ⟨rfl, rfl⟩ := hx
    exact ⟨hxs, rfl⟩
end Go.Proofs.Ytpdknjbhnelidaa

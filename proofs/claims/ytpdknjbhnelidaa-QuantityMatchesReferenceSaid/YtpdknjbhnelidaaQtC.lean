/- The walks of isUnit and Valid. -/
import Derived.Test.YtpdknjbhnelidaaQtB
namespace Go.Proofs.Ytpdknjbhnelidaa
open Go.RowKit

theorem Tab.take {w : World} {p : Option Addr} {us : List Qn.Un} (h : Tab w p us) (i : Nat) : Tab w p (us.take i) := by
  obtain ⟨h1, h2⟩ := h
  refine ⟨fun u hu => h1 u (List.mem_of_mem_take hu), ?_⟩
  rcases h2 with rfl | ⟨b, off, hp, h⟩
  · exact .inl (by simp)
  · refine .inr ⟨b, off, hp, fun j u hu => h j u ?_⟩
    rw [List.getElem?_take] at hu
    split at hu
    · exact hu
    · cases hu
theorem names_any (us : List Qn.Un) (i : Nat) (u : Qn.Un) : ((us.take i).any fun v => v.nm == u.nm) = true ↔ ¬ ∀ v ∈ us.take i, v.nm ≠ u.nm := by
  simp only [List.any_eq_true, beq_iff_eq, Classical.not_forall, ne_eq, Classical.not_not]
  exact ⟨fun ⟨v, h1, h2⟩ => ⟨v, h1, h2⟩, fun ⟨v, h1, h2⟩ => ⟨v, h1, h2⟩⟩
/-- valid, of an index that a table has -/
theorem good_iff {us : List Qn.Un} {i : Nat} {u b : Qn.Un} (hb : us[u.base.toNat]? = some b) :
    Qn.GoodU us i u ↔ i < 20 ∧ u.nm ≠ [] ∧ (u.kd = 1 ∨ u.kd = 2) ∧ ((us.take i).any fun v => v.nm == u.nm) = false ∧ Rt.Ok u.fac.1 u.fac.2 ∧ 1 ≤ u.fac.1 ∧ 0 ≤ u.base ∧ u.base < us.length ∧ b.kd = u.kd ∧ b.base = u.base ∧ (u.base = i → u.fac = (1, 1)) := by
  have hn : ((us.take i).any fun v => v.nm == u.nm) = false ↔ ∀ v ∈ us.take i, v.nm ≠ u.nm := by rw [← Bool.not_eq_true, names_any, Classical.not_not]
  rw [hn]
  constructor
  · rintro ⟨h1, h2, h3, h4, ⟨h5, h6⟩, h7, h8, ⟨b', h9, h10, h11⟩, h12⟩
    rw [hb] at h9
    cases h9
    exact ⟨h1, h2, h4, h3, h5, h6, h7, h8, h11, h10, h12⟩
  · rintro ⟨h1, h2, h4, h3, h5, h6, h7, h8, h11, h10, h12⟩
    exact ⟨h1, h2, h3, h4, ⟨h5, h6⟩, h7, h8, ⟨b, hb, h10, h11⟩, h12⟩
theorem contains_calls (p : Option Addr) (cap : Nat) (us : List Qn.Un) (i : Nat) (u : Qn.Un) (ub : Nat) (w : World) (hi : i ≤ us.length) (h20 : i < 20) (ht : Tab w p us) (hlt : ub < w.heap.size) (hc : w.cell? ⟨ub, 0, none⟩ = some (.string ⟨u.nm.toArray⟩)) :
    Calls Try.prog 36 #[.slice p i cap, .func (.func 37) #[] #[.pointer (some ⟨ub, 0, none⟩)]] w fun e w' => e = .returned (.bool ((us.take i).any fun v => v.nm == u.nm)) ∧ Below w.heap.size w w' := by
  have hl : (us.take i).length = i := by rw [List.length_take]; omega
  have h := unit_any ub p cap (us.take i) (fun v => v.nm == u.nm) w (by omega) (ht.take i) (fun k v w' _ hb => same_name v u ub w' (Nat.lt_of_lt_of_le hlt hb.size) (cell_keep hb hc))
  rwa [hl] at h
set_option maxRecDepth 100000 in
set_option maxHeartbeats 1600000 in
theorem isu_many (p : Option Addr) (cap : Nat) (us : List Qn.Un) (i : Nat) (u : Qn.Un) (w : World) (hu : us[i]? = some u) (ht : Tab w p us) (h : 20 ≤ i) :
    Calls Try.prog 19 #[.slice p us.length cap, .int .i64 i] w fun e w' => e = .returned (.bool false) ∧ Below w.heap.size w w' := by
  have hil : i < us.length := (List.getElem?_eq_some_iff.1 hu).1
  obtain ⟨b, off, rfl, hc, hb64, hbl⟩ := ht.at hu
  obtain ⟨c0, c1, c2, c3, c4⟩ := hc
  clear hu ht
  go_enter Try.func19, Try.ntmps19
  go_wp2_with fail
  go_ret
  exact ⟨rfl, (by repeat (first | exact Below.refl _ _ | assumption | refine below_drewN ?_ _ | refine Below.setCell ?_ (by first | (simp; done) | (simp; omega)) _ | refine Below.alloc ?_ (by first | (simp; done) | (simp; omega) | omega) _ | refine Below.drew ?_ | refine Below.trans ?_ (Below.mono (by assumption) (by first | (simp; done) | (simp; omega) | omega))))⟩
set_option maxRecDepth 100000 in
set_option maxHeartbeats 1600000 in
theorem isu_noname (p : Option Addr) (cap : Nat) (us : List Qn.Un) (i : Nat) (u : Qn.Un) (w : World) (hu : us[i]? = some u) (ht : Tab w p us) (h : i < 20) (hn : u.nm = []) :
    Calls Try.prog 19 #[.slice p us.length cap, .int .i64 i] w fun e w' => e = .returned (.bool false) ∧ Below w.heap.size w w' := by
  have hil : i < us.length := (List.getElem?_eq_some_iff.1 hu).1
  obtain ⟨b, off, rfl, hc, hb64, hbl⟩ := ht.at hu
  obtain ⟨c0, c1, c2, c3, c4⟩ := hc
  clear ht
  rw [hn] at c0
  go_enter Try.func19, Try.ntmps19
  go_wp2_with fail
  go_ret
  exact ⟨rfl, (by repeat (first | exact Below.refl _ _ | assumption | refine below_drewN ?_ _ | refine Below.setCell ?_ (by first | (simp; done) | (simp; omega)) _ | refine Below.alloc ?_ (by first | (simp; done) | (simp; omega) | omega) _ | refine Below.drew ?_ | refine Below.trans ?_ (Below.mono (by assumption) (by first | (simp; done) | (simp; omega) | omega))))⟩
set_option maxRecDepth 100000 in
set_option maxHeartbeats 1600000 in
theorem isu_kind (p : Option Addr) (cap : Nat) (us : List Qn.Un) (i : Nat) (u : Qn.Un) (w : World) (hu : us[i]? = some u) (ht : Tab w p us) (h : i < 20) (hn : u.nm ≠ []) (hk1 : (u.kd != 1) = true) (hk2 : (u.kd != 2) = true) :
    Calls Try.prog 19 #[.slice p us.length cap, .int .i64 i] w fun e w' => e = .returned (.bool false) ∧ Below w.heap.size w w' := by
  have hil : i < us.length := (List.getElem?_eq_some_iff.1 hu).1
  obtain ⟨b, off, rfl, hc, hb64, hbl⟩ := ht.at hu
  obtain ⟨c0, c1, c2, c3, c4⟩ := hc
  have hnb : (u.nm == []) = false := beq_eq_false_iff_ne.2 hn
  clear hu ht hn
  go_enter Try.func19, Try.ntmps19
  go_wp2_with fail
  go_ret
  exact ⟨rfl, (by repeat (first | exact Below.refl _ _ | assumption | refine below_drewN ?_ _ | refine Below.setCell ?_ (by first | (simp; done) | (simp; omega)) _ | refine Below.alloc ?_ (by first | (simp; done) | (simp; omega) | omega) _ | refine Below.drew ?_ | refine Below.trans ?_ (Below.mono (by assumption) (by first | (simp; done) | (simp; omega) | omega))))⟩
end Go.Proofs.Ytpdknjbhnelidaa

/- Plain mathematics of tables of units, and of lists that cover others. No program in it. -/
import Derived.Test.YtpdknjbhnelidaaQtMath
namespace Go.Proofs.Ytpdknjbhnelidaa.Qn
/-- a unit: its name, its kind, its base unit and its factor -/
structure Un where
  nm : List UInt8
  kd : Int
  base : Int
  fac : R
/-- the unit with an index is valid -/
def GoodU (us : List Un) (i : Nat) (u : Un) : Prop :=
  i < 20 ∧ u.nm ≠ [] ∧ (∀ v ∈ us.take i, v.nm ≠ u.nm) ∧ (u.kd = 1 ∨ u.kd = 2) ∧ Fac u.fac ∧ 0 ≤ u.base ∧ u.base < us.length ∧
    (∃ b, us[u.base.toNat]? = some b ∧ b.base = u.base ∧ b.kd = u.kd) ∧ (u.base = i → u.fac = (1, 1))
open Classical in
/-- the first unit that is not valid, from the index i on; -1 -/
noncomputable def firstBad (us : List Un) : Nat → List Un → Int × Bool
  | _, [] => (-1, true)
  | i, u :: l => if GoodU us i u then firstBad us (i + 1) l else (i, false)
noncomputable def validS (us : List Un) : Int × Bool := firstBad us 0 us
/-- all units of a table are valid -/
def AllGood (us : List Un) : Prop := ∀ i u, us[i]? = some u → GoodU us i u
theorem firstBad_true (us : List Un) : ∀ (l : List Un) (i : Nat), (∀ j u, l[j]? = some u → GoodU us (i + j) u) → firstBad us i l = (-1, true)
  | [], _, _ => rfl
  | u :: l, i, h => by
    rw [firstBad, if_pos (show GoodU us i u from h 0 u rfl)]
    refine firstBad_true us l (i + 1) fun j v hv => ?_
    have := h (j + 1) v (by simpa using hv)
    rwa [show i + 1 + j = i + (j + 1) by omega]
theorem firstBad_false (us : List Un) : ∀ (l : List Un) (i j : Nat) (u : Un), l[j]? = some u → ¬ GoodU us (i + j) u → (firstBad us i l).2 = false
  | [], _, _, _, h, _ => by simp at h
  | v :: l, i, 0, u, h, k => by
    obtain rfl : v = u := by simpa using h
    rw [firstBad, if_neg (by simpa using k)]
  | v :: l, i, j + 1, u, h, k => by
    rw [firstBad]
    split
    · exact firstBad_false us l (i + 1) j u (by simpa using h) (by rwa [show i + 1 + j = i + (j + 1) by omega])
    · rfl
theorem valid_yes {us : List Un} (h : AllGood us) : validS us = (-1, true) := firstBad_true us us 0 fun j u hu => by simpa using h j u hu
open Classical in
theorem valid_iff (us : List Un) : (validS us).2 = true ↔ AllGood us := by
  constructor
  · intro h i u hu
    by_cases k : GoodU us i u
    · exact k
    · have := firstBad_false us us 0 i u hu (by simpa using k)
      rw [show firstBad us 0 us = validS us from rfl, h] at this
      cases this
  · intro h
    rw [valid_yes h]
/-- a table of at most 20 units, without an order among the names -/
def Flat (us : List Un) : Prop :=
  (∀ (i : Nat) u, us[i]? = some u → u.nm ≠ [] ∧ (u.kd = 1 ∨ u.kd = 2) ∧ Fac u.fac ∧ 0 ≤ u.base ∧ u.base < us.length ∧ (∃ b, us[u.base.toNat]? = some b ∧ b.base = u.base ∧ b.kd = u.kd) ∧ (u.base = i → u.fac = (1, 1))) ∧
  ∀ (i j : Nat) u v, i ≠ j → us[i]? = some u → us[j]? = some v → u.nm ≠ v.nm
theorem take_mem {us : List Un} {i : Nat} {v : Un} (h : v ∈ us.take i) : ∃ k, k < i ∧ us[k]? = some v := by
  obtain ⟨k, hk⟩ := List.mem_iff_getElem?.1 h
  rw [List.getElem?_take] at hk
  split at hk
  · next h => exact ⟨k, h, hk⟩
  · cases hk
theorem flat_iff {us : List Un} (hn : us.length ≤ 20) : AllGood us ↔ Flat us := by
  constructor
  · intro h
    refine ⟨fun i u hu => ?_, ?_⟩
    · obtain ⟨_, a, _, b, c, d, e, f, g⟩ := h i u hu
      exact ⟨a, b, c, d, e, f, g⟩
    · have key : ∀ (i j : Nat) u v, i < j → us[i]? = some u → us[j]? = some v → u.nm ≠ v.nm := by
        intro i j u v hij hu hv
        refine (h j v hv).2.2.1 u (List.mem_iff_getElem?.2 ⟨i, ?_⟩)
        rw [List.getElem?_take, if_pos hij, hu]
      intro i j u v hij hu hv
      rcases Nat.lt_or_gt_of_ne hij with h1 | h1
      · exact key i j u v h1 hu hv
      · exact fun e => key j i v u h1 hv hu e.symm
  · intro h i u hu
    obtain ⟨a, b, c, d, e, f, g⟩ := h.1 i u hu
    have hi := (List.getElem?_eq_some_iff.1 hu).1
    refine ⟨by omega, a, fun v hv => ?_, b, c, d, e, f, g⟩
    obtain ⟨k, hk, hkv⟩ := take_mem hv
    exact h.2 k i v u (by omega) hkv hu
/-- a text behind a name that is not empty -/
def nam (t : List UInt8) (u : Un) : Un := if u.nm = [] then u else { u with nm := u.nm ++ t }
theorem nam_nil (t : List UInt8) (u : Un) : (nam t u).nm = [] ↔ u.nm = [] := by unfold nam; split <;> simp [*]
theorem nam_rest (t : List UInt8) (u : Un) : (nam t u).kd = u.kd ∧ (nam t u).base = u.base ∧ (nam t u).fac = u.fac := by unfold nam; split <;> simp
theorem nam_inj (t : List UInt8) {u v : Un} (hu : u.nm ≠ []) (hv : v.nm ≠ []) : (nam t u).nm = (nam t v).nm ↔ u.nm = v.nm := by
  unfold nam
  rw [if_neg hu, if_neg hv]
  exact List.append_left_inj t
theorem nam_get (t : List UInt8) (us : List Un) (i : Nat) : (us.map (nam t))[i]? = (us[i]?).map (nam t) := List.getElem?_map
theorem flat_named (t : List UInt8) (us : List Un) : Flat (us.map (nam t)) ↔ Flat us := by
  constructor
  · intro h
    have h1 : ∀ (i : Nat) u, us[i]? = some u → u.nm ≠ [] := fun i u hu => mt (nam_nil t u).2 (h.1 i (nam t u) (by rw [nam_get, hu]; rfl)).1
    refine ⟨fun i u hu => ?_, fun i j u v hij hu hv => ?_⟩
    · obtain ⟨a, b, c, d, e, ⟨x, f1, f2, f3⟩, g⟩ := h.1 i (nam t u) (by rw [nam_get, hu]; rfl)
      obtain ⟨k1, k2, k3⟩ := nam_rest t u
      rw [k1] at b f3; rw [k3] at c g; rw [k2] at d e f1 f2 g
      rw [List.length_map] at e
      rw [nam_get] at f1
      obtain ⟨y, f4, rfl⟩ := Option.map_eq_some_iff.1 f1
      obtain ⟨m1, m2, m3⟩ := nam_rest t y
      exact ⟨h1 i u hu, b, c, d, e, ⟨y, f4, m2 ▸ f2, m1 ▸ f3⟩, g⟩
    · exact mt (nam_inj t (h1 i u hu) (h1 j v hv)).2 (h.2 i j _ _ hij (by rw [nam_get, hu]; rfl) (by rw [nam_get, hv]; rfl))
  · intro h
    refine ⟨fun i w hw => ?_, fun i j w x hij hw hx => ?_⟩
    · rw [nam_get] at hw
      obtain ⟨u, hu, rfl⟩ := Option.map_eq_some_iff.1 hw
      obtain ⟨a, b, c, d, e, ⟨x, f1, f2, f3⟩, g⟩ := h.1 i u hu
      obtain ⟨k1, k2, k3⟩ := nam_rest t u
      obtain ⟨m1, m2, m3⟩ := nam_rest t x
      rw [k1, k2, k3, List.length_map]
      exact ⟨mt (nam_nil t u).1 a, b, c, d, e, ⟨nam t x, by rw [nam_get, f1]; rfl, m2.trans f2, m1.trans f3⟩, g⟩
    · rw [nam_get] at hw hx
      obtain ⟨u, hu, rfl⟩ := Option.map_eq_some_iff.1 hw
      obtain ⟨v, hv, rfl⟩ := Option.map_eq_some_iff.1 hx
      exact mt (nam_inj t (h.1 i u hu).1 (h.1 j v hv).1).1 (h.2 i j u v hij hu hv)
/-- a unit whose base is moved with its table -/
def mov (n : Nat) (f : Nat → Nat) (u : Un) : Un := { u with base := if 0 ≤ u.base ∧ u.base < n then (f u.base.toNat : Nat) else u.base }
theorem flat_moved {us vs : List Un} {n : Nat} {f g : Nat → Nat} (hu : us.length = n) (hv : vs.length = n) (hf : ∀ i, i < n → f i < n) (hg : ∀ i, i < n → g i < n) (hgf : ∀ i, i < n → g (f i) = i) (hfg : ∀ i, i < n → f (g i) = i)
    (h : ∀ i u, us[i]? = some u → vs[f i]? = some (mov n f u)) (k : Flat us) : Flat vs := by
  have back : ∀ (j : Nat) w, vs[j]? = some w → ∃ u, us[g j]? = some u ∧ w = mov n f u ∧ j < n := by
    intro j w hw
    have hj : j < n := hv ▸ (List.getElem?_eq_some_iff.1 hw).1
    have hgj := hg j hj
    have := h (g j) _ (List.getElem?_eq_getElem (by omega))
    rw [hfg j hj, hw] at this
    exact ⟨_, List.getElem?_eq_getElem (by omega), by simpa using this, hj⟩
  refine ⟨fun j w hw => ?_, fun i j w x hij hw hx => ?_⟩
  · obtain ⟨u, hu', rfl, hj⟩ := back j w hw
    obtain ⟨a, b, c, d, e, ⟨x, f1, f2, f3⟩, q⟩ := k.1 _ u hu'
    have hb : (mov n f u).base = (f u.base.toNat : Nat) := by unfold mov; simp only; rw [if_pos ⟨d, by omega⟩]
    have hbn : u.base.toNat < n := by omega
    have hbx : (mov n f x).base = (f u.base.toNat : Nat) := by unfold mov; simp only; rw [f2, if_pos ⟨d, by omega⟩]
    have := hf _ hbn
    refine ⟨a, b, c, by omega, by omega, ⟨mov n f x, ?_, by rw [hbx, hb], f3⟩, fun hq => ?_⟩
    · rw [hb, Int.toNat_natCast]
      exact h _ x f1
    · rw [hb] at hq
      have e1 : f u.base.toNat = j := by omega
      have e2 := hgf _ hbn
      rw [e1] at e2
      exact q (by omega)
  · obtain ⟨u, h1, rfl, hi⟩ := back i w hw
    obtain ⟨v, h2, rfl, hj⟩ := back j x hx
    refine k.2 (g i) (g j) u v (fun e => hij ?_) h1 h2
    rw [← hfg i hi, ← hfg j hj, e]
theorem mov_mov {n : Nat} {f g : Nat → Nat} (hf : ∀ i, i < n → f i < n) (hgf : ∀ i, i < n → g (f i) = i) (u : Un) : mov n g (mov n f u) = u := by
  unfold mov
  by_cases h : 0 ≤ u.base ∧ u.base < n
  · have h1 : u.base.toNat < n := by omega
    have h2 := hf _ h1
    have h3 := hgf _ h1
    simp only [if_pos h]
    rw [if_pos ⟨by omega, by omega⟩, Int.toNat_natCast, h3]
    obtain ⟨a, b, c, d⟩ := u
    simp only at h ⊢
    rw [Int.toNat_of_nonneg h.1]
  · simp only [if_neg h]
theorem flat_moved_iff {us vs : List Un} {n : Nat} {f g : Nat → Nat} (hu : us.length = n) (hv : vs.length = n) (hf : ∀ i, i < n → f i < n) (hg : ∀ i, i < n → g i < n) (hgf : ∀ i, i < n → g (f i) = i) (hfg : ∀ i, i < n → f (g i) = i)
    (h : ∀ i u, us[i]? = some u → vs[f i]? = some (mov n f u)) : Flat vs ↔ Flat us := by
  refine ⟨fun k => flat_moved hv hu hg hf hfg hgf (fun j w hw => ?_) k, flat_moved hu hv hf hg hgf hfg h⟩
  have hj : j < n := hv ▸ (List.getElem?_eq_some_iff.1 hw).1
  have hgj := hg j hj
  have hx : us[g j]? = some us[g j] := List.getElem?_eq_getElem (by omega)
  have := h (g j) _ hx
  rw [hfg j hj, hw] at this
  obtain rfl : w = mov n f us[g j] := by simpa using this
  rw [mov_mov hf hgf, hx]
/-- rotated by r -/
theorem flat_turned {us vs : List Un} {n r : Nat} (hu : us.length = n) (hv : vs.length = n) (hr : r < n) (h : ∀ i u, us[i]? = some u → vs[(i + r) % n]? = some (mov n (fun i => (i + r) % n) u)) : Flat vs ↔ Flat us := by
  refine flat_moved_iff (f := fun i => (i + r) % n) (g := fun i => (i + (n - r)) % n) hu hv (fun i hi => Nat.mod_lt _ (by omega)) (fun i hi => Nat.mod_lt _ (by omega)) (fun i hi => ?_) (fun i hi => ?_) h
  · rcases Nat.lt_or_ge (i + r) n with h1 | h1
    · rw [Nat.mod_eq_of_lt h1, show i + r + (n - r) = i + n by omega, Nat.add_mod_right, Nat.mod_eq_of_lt hi]
    · rw [Nat.mod_eq_sub_mod h1, Nat.mod_eq_of_lt (show i + r - n < n by omega), show i + r - n + (n - r) = i by omega, Nat.mod_eq_of_lt hi]
  · rcases Nat.lt_or_ge (i + (n - r)) n with h1 | h1
    · rw [Nat.mod_eq_of_lt h1, show i + (n - r) + r = i + n by omega, Nat.add_mod_right, Nat.mod_eq_of_lt hi]
    · rw [Nat.mod_eq_sub_mod h1, Nat.mod_eq_of_lt (show i + (n - r) - n < n by omega), show i + (n - r) - n + r = i by omega, Nat.mod_eq_of_lt hi]

/-- a list covers another -/
def Cov (a b : List R) : Prop := a.length = b.length ∧ (∀ r ∈ a, RO r) ∧ (∀ r ∈ b, RO r) ∧ ∀ i, i < a.length → val (b.getD i (0, 1)) ≤ val (a.getD i (0, 1))
theorem cov_refl {a : List R} : Cov a a ↔ ∀ r ∈ a, RO r := ⟨fun h => h.2.1, fun h => ⟨rfl, h, h, fun _ _ => Rat.le_refl⟩⟩
theorem cov_trans {a b c : List R} (h : Cov a b) (k : Cov b c) : Cov a c :=
  ⟨h.1.trans k.1, h.2.1, k.2.2.1, fun i hi => Rat.le_trans (k.2.2.2 i (h.1 ▸ hi)) (h.2.2.2 i hi)⟩
theorem cov_antisymm {a b : List R} (h : Cov a b) (k : Cov b a) : a = b := by
  refine List.ext_getElem h.1 fun i h1 h2 => ?_
  have e1 := h.2.2.2 i h1
  have e2 := k.2.2.2 i h2
  rw [getD_get h1, getD_get h2] at e1
  rw [getD_get h1, getD_get h2] at e2
  exact val_inj (h.2.1 _ (List.getElem_mem _)) (h.2.2.1 _ (List.getElem_mem _)) (Rat.le_antisymm e2 e1)
/-- x is a with the ratios of d added -/
def Plus (a d x : List R) : Prop := x.length = a.length ∧ ∀ i, i < a.length → RO (d.getD i (0, 1)) ∧ Rt.addS (a.getD i (0, 1)).1 (a.getD i (0, 1)).2 (d.getD i (0, 1)).1 (d.getD i (0, 1)).2 = ((x.getD i (0, 1)).1, (x.getD i (0, 1)).2, 0)
theorem plus_val {a d x : List R} (ha : ∀ r ∈ a, RO r) (h : Plus a d x) : (∀ r ∈ x, RO r) ∧ ∀ i, i < a.length → val (x.getD i (0, 1)) = val (a.getD i (0, 1)) + val (d.getD i (0, 1)) := by
  have key : ∀ i, i < a.length → RO (x.getD i (0, 1)) ∧ val (x.getD i (0, 1)) = val (a.getD i (0, 1)) + val (d.getD i (0, 1)) := fun i hi =>
    add_val (by rw [getD_get hi]; exact ha _ (List.getElem_mem _)) (h.2 i hi).1 (h.2 i hi).2
  refine ⟨fun r hr => ?_, fun i hi => (key i hi).2⟩
  obtain ⟨i, hi, rfl⟩ := List.getElem_of_mem hr
  rw [← getD_get hi]
  exact (key i (h.1 ▸ hi)).1
theorem cov_plus {a b d x y : List R} (ha : ∀ r ∈ a, RO r) (hb : ∀ r ∈ b, RO r) (hl : a.length = b.length) (hx : Plus a d x) (hy : Plus b d y) : Cov x y ↔ Cov a b := by
  obtain ⟨x1, x2⟩ := plus_val ha hx
  obtain ⟨y1, y2⟩ := plus_val hb hy
  have hxl := hx.1
  have hyl := hy.1
  constructor
  · intro h
    refine ⟨hl, ha, hb, fun i hi => ?_⟩
    have := h.2.2.2 i (by omega)
    rw [x2 i hi, y2 i (by omega)] at this
    exact Rat.add_le_add_right.1 this
  · intro h
    refine ⟨by omega, x1, y1, fun i hi => ?_⟩
    rw [x2 i (by omega), y2 i (by omega)]
    exact Rat.add_le_add_right.2 (h.2.2.2 i (by omega))
end Go.Proofs.Ytpdknjbhnelidaa.Qn

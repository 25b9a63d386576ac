/- The calendar of package date, in plain numbers: years, months, dates. -/
import Derived.RowKit
namespace Go.Proofs.YtlbfnafniobnaaaDoor.Dt

def leap (y : Int) : Bool := decide ((y % 4 = 0 ∧ ¬ y % 100 = 0) ∨ y % 400 = 0)
def ly (y : Int) : Int := y / 4 - y / 100 + y / 400
def yb (y : Int) : Int := 365 * (y - 1990) + ly (y - 1) - 482
def dbN : Nat → Int
  | 0 => 0 | 1 => 31 | 2 => 59 | 3 => 90 | 4 => 120 | 5 => 151 | 6 => 181 | 7 => 212 | 8 => 243 | 9 => 273 | 10 => 304 | 11 => 334 | 12 => 365 | _ => 0
def db (m : Int) : Int := dbN (m - 1).toNat
def mb (y m : Int) : Int := yb y + db m + (if 2 < m ∧ leap y = true then 1 else 0)
def ml (y m : Int) : Int := mb y (m + 1) - mb y m
theorem yb_step (y : Int) : yb (y + 1) = yb y + (if leap y = true then 366 else 365) := by
  unfold yb ly leap
  by_cases h : (y % 4 = 0 ∧ ¬ y % 100 = 0) ∨ y % 400 = 0
  · rw [if_pos (by simpa using h)]; omega
  · rw [if_neg (by simpa using h)]; omega
theorem month_cases {m : Int} (h1 : 1 ≤ m) (h2 : m ≤ 12) : m = 1 ∨ m = 2 ∨ m = 3 ∨ m = 4 ∨ m = 5 ∨ m = 6 ∨ m = 7 ∨ m = 8 ∨ m = 9 ∨ m = 10 ∨ m = 11 ∨ m = 12 := by omega
theorem mb_one (y : Int) : mb y 1 = yb y := by
  unfold mb; rw [if_neg (by omega)]; show yb y + 0 + 0 = _; omega
theorem mb_end (y : Int) : mb y 13 = yb (y + 1) := by
  rw [yb_step]; unfold mb
  cases h : leap y
  · rw [if_neg (by simp), if_neg (by simp)]; show yb y + 365 + 0 = _; omega
  · rw [if_pos ⟨by omega, rfl⟩, if_pos rfl]; show yb y + 365 + 1 = _; omega
theorem ml_eq {y m : Int} (h1 : 1 ≤ m) (h2 : m ≤ 12) :
    ml y m = if m = 2 then (if leap y = true then 29 else 28) else if m = 4 ∨ m = 6 ∨ m = 9 ∨ m = 11 then 30 else 31 := by
  unfold ml mb db
  cases hl : leap y <;> rcases month_cases h1 h2 with h | h | h | h | h | h | h | h | h | h | h | h <;> subst h <;> simp [dbN] <;> omega
theorem ml_bd {y m : Int} (h1 : 1 ≤ m) (h2 : m ≤ 12) : 28 ≤ ml y m ∧ ml y m ≤ 31 := by
  rw [ml_eq h1 h2]
  split
  · split <;> omega
  · split <;> omega
theorem mb_step {y m : Int} : mb y (m + 1) = mb y m + ml y m := by unfold ml; omega
theorem mb_mono_nat {y m : Int} (h1 : 1 ≤ m) : ∀ (k : Nat), m + k ≤ 13 → mb y m ≤ mb y (m + k)
  | 0, _ => by simp
  | k + 1, h => by
    have a := mb_mono_nat (y := y) h1 k (by omega)
    have b := ml_bd (y := y) (m := m + k) (by omega) (by omega)
    have c := mb_step (y := y) (m := m + k)
    rw [show m + ((k + 1 : Nat) : Int) = m + k + 1 by omega]
    omega
theorem mb_mono {y m n : Int} (h1 : 1 ≤ m) (h : m ≤ n) (h2 : n ≤ 13) : mb y m ≤ mb y n := by
  have := mb_mono_nat (y := y) h1 (n - m).toNat (by omega)
  rwa [show m + ((n - m).toNat : Int) = n by omega] at this
theorem yb_nat (y : Int) : ∀ k : Nat, yb y + 365 * k ≤ yb (y + k) ∧ yb (y + k) ≤ yb y + 366 * k
  | 0 => by simp
  | k + 1 => by
    have a := yb_nat y k
    have b := yb_step (y + k)
    rw [show y + ((k + 1 : Nat) : Int) = y + k + 1 by omega, b]
    split <;> omega
theorem yb_mono {y z : Int} (h : y ≤ z) : yb y ≤ yb z := by
  have := (yb_nat y (z - y).toNat).1
  rw [show y + ((z - y).toNat : Int) = z by omega] at this
  omega
theorem yb_first : yb 1990 = 0 := by decide
theorem yb_end : yb 2190 = 73049 := by decide

/-- the date of a day -/
def IsCiv (day y m d : Int) : Prop := 1990 ≤ y ∧ y ≤ 2189 ∧ 1 ≤ m ∧ m ≤ 12 ∧ 1 ≤ d ∧ d ≤ ml y m ∧ mb y m + d - 1 = day
theorem civ_year {day y m d : Int} (h : IsCiv day y m d) : yb y ≤ day ∧ day < yb (y + 1) := by
  obtain ⟨h1, h2, h3, h4, h5, h6, h7⟩ := h
  have a := mb_mono (y := y) (m := 1) (n := m) (by omega) h3 (by omega)
  have b := mb_mono (y := y) (m := m + 1) (n := 13) (by omega) (by omega) (by omega)
  have c := mb_step (y := y) (m := m)
  rw [mb_one] at a
  rw [mb_end] at b
  omega
theorem civ_range {day y m d : Int} (h : IsCiv day y m d) : 0 ≤ day ∧ day ≤ 73048 := by
  have a := civ_year h
  have b := yb_mono h.1
  have c := yb_mono (show y + 1 ≤ 2190 by have := h.2.1; omega)
  rw [yb_first] at b; rw [yb_end] at c
  omega
theorem civ_unique {day y m d y' m' d' : Int} (h : IsCiv day y m d) (h' : IsCiv day y' m' d') : y = y' ∧ m = m' ∧ d = d' := by
  have a := civ_year h
  have a' := civ_year h'
  have ey : y = y' := by
    rcases Int.lt_trichotomy y y' with hl | hl | hl
    · have := yb_mono (show y + 1 ≤ y' by omega); omega
    · exact hl
    · have := yb_mono (show y' + 1 ≤ y by omega); omega
  subst ey
  obtain ⟨h1, h2, h3, h4, h5, h6, h7⟩ := h
  obtain ⟨k1, k2, k3, k4, k5, k6, k7⟩ := h'
  have c := mb_step (y := y) (m := m)
  have c' := mb_step (y := y) (m := m')
  have em : m = m' := by
    rcases Int.lt_trichotomy m m' with hl | hl | hl
    · have := mb_mono (y := y) (show 1 ≤ m + 1 by omega) (show m + 1 ≤ m' by omega) (by omega); omega
    · exact hl
    · have := mb_mono (y := y) (show 1 ≤ m' + 1 by omega) (show m' + 1 ≤ m by omega) (by omega); omega
  subst em
  exact ⟨rfl, rfl, by omega⟩
theorem civ_next {day y m d : Int} (h : IsCiv day y m d) (hd : day < 73048) :
    (d < ml y m ∧ IsCiv (day + 1) y m (d + 1)) ∨ (d = ml y m ∧ m < 12 ∧ IsCiv (day + 1) y (m + 1) 1) ∨ (d = ml y m ∧ m = 12 ∧ y < 2189 ∧ IsCiv (day + 1) (y + 1) 1 1) := by
  have a := civ_year h
  obtain ⟨h1, h2, h3, h4, h5, h6, h7⟩ := h
  have c := mb_step (y := y) (m := m)
  by_cases hl : d < ml y m
  · exact .inl ⟨hl, h1, h2, h3, h4, by omega, by omega, by omega⟩
  · by_cases hm : m < 12
    · have b := ml_bd (y := y) (m := m + 1) (by omega) (by omega)
      exact .inr (.inl ⟨by omega, hm, h1, h2, by omega, by omega, by omega, by omega, by omega⟩)
    · have em : m = 12 := by omega
      subst em
      have e := mb_end y
      rw [show (13 : Int) = 12 + 1 from rfl, c] at e
      have hy : y < 2189 := by
        rcases Int.lt_or_le y 2189 with hl2 | hl2
        · exact hl2
        · have ey : y = 2189 := by omega
          subst ey
          rw [show (2189 : Int) + 1 = 2190 from rfl, yb_end] at e
          omega
      have b := ml_bd (y := y + 1) (m := 1) (by omega) (by omega)
      exact .inr (.inr ⟨by omega, rfl, hy, by omega, by omega, by omega, by omega, by omega, by omega, by rw [mb_one]; omega⟩)
theorem civ_zero : IsCiv 0 1990 1 1 := ⟨by omega, by omega, by omega, by omega, by omega, by decide, by decide⟩
theorem civ_exists_nat : ∀ k : Nat, k ≤ 73048 → ∃ y m d, IsCiv (k : Int) y m d
  | 0, _ => ⟨_, _, _, civ_zero⟩
  | k + 1, h => by
    obtain ⟨y, m, d, hc⟩ := civ_exists_nat k (by omega)
    rw [show ((k + 1 : Nat) : Int) = (k : Int) + 1 by omega]
    rcases civ_next hc (by omega) with ⟨_, h⟩ | ⟨_, _, h⟩ | ⟨_, _, _, h⟩ <;> exact ⟨_, _, _, h⟩
theorem civ_exists {day : Int} (h0 : 0 ≤ day) (h1 : day ≤ 73048) : ∃ y m d, IsCiv day y m d := by
  have := civ_exists_nat day.toNat (by omega)
  rwa [show ((day.toNat : Nat) : Int) = day by omega] at this
/-- the guess of the year -/
theorem civ_guess_year {day y m d : Int} (h : IsCiv day y m d) : 1990 + day / 366 ≤ y := by
  have a := civ_year h
  have b := (yb_nat 1990 (y + 1 - 1990).toNat).2
  have h1 := h.1
  rw [yb_first, show (1990 : Int) + ((y + 1 - 1990).toNat : Int) = y + 1 by omega] at b
  have r := civ_range h
  omega
theorem civ_year_round {day y m d z : Int} (h : IsCiv day y m d) (hz : z < y) : yb (z + 1) ≤ day := by
  have a := civ_year h
  have := yb_mono (show z + 1 ≤ y by omega)
  omega
theorem mb_guess {y m : Int} (h1 : 1 ≤ m) (h2 : m ≤ 13) : mb y m ≤ yb y + 31 * (m - 1) := by
  have : ∀ k : Nat, (k : Int) ≤ 12 → mb y (1 + k) ≤ yb y + 31 * k := by
    intro k
    induction k with
    | zero => intro _; rw [show (1 : Int) + ((0 : Nat) : Int) = 1 from rfl, mb_one]; simp
    | succ k ih =>
      intro hk
      have a := ih (by omega)
      have b := ml_bd (y := y) (m := 1 + k) (by omega) (by omega)
      have c := mb_step (y := y) (m := 1 + k)
      rw [show (1 : Int) + ((k + 1 : Nat) : Int) = 1 + k + 1 by omega]
      omega
  have h := this (m - 1).toNat (by omega)
  rw [show (1 : Int) + ((m - 1).toNat : Int) = m by omega] at h
  omega
theorem civ_guess_month {day y m d : Int} (h : IsCiv day y m d) : 1 + (day - yb y) / 31 ≤ m := by
  have a := civ_year h
  obtain ⟨h1, h2, h3, h4, h5, h6, h7⟩ := h
  have c := mb_step (y := y) (m := m)
  have g := mb_guess (y := y) (m := m + 1) (by omega) (by omega)
  omega
theorem civ_month_round {day y m d z : Int} (h : IsCiv day y m d) (h1 : 1 ≤ z) (hz : z < m) : mb y (z + 1) ≤ day := by
  obtain ⟨_, _, _, h4, h5, h6, h7⟩ := h
  have := mb_mono (y := y) (show 1 ≤ z + 1 by omega) (show z + 1 ≤ m by omega) (by omega)
  omega
theorem civ_month_end {day y m d : Int} (h : IsCiv day y m d) : ¬ mb y (m + 1) ≤ day := by
  obtain ⟨h1, h2, h3, h4, h5, h6, h7⟩ := h
  have c := mb_step (y := y) (m := m)
  omega
theorem yb_bd {y : Int} (h1 : 1990 ≤ y) (h2 : y ≤ 2190) : 0 ≤ yb y ∧ yb y ≤ 73049 := by
  have a := yb_mono h1
  have b := yb_mono h2
  rw [yb_first] at a; rw [yb_end] at b
  exact ⟨a, b⟩
theorem mb_bd {y m : Int} (h1 : 1990 ≤ y) (h2 : y ≤ 2189) (h3 : 1 ≤ m) (h4 : m ≤ 13) : 0 ≤ mb y m ∧ mb y m ≤ 73049 := by
  have a := yb_bd h1 (by omega)
  have b := yb_bd (y := y + 1) (by omega) (by omega)
  have c := mb_mono (y := y) (m := 1) (n := m) (by omega) h3 h4
  have d := mb_mono (y := y) (m := m) (n := 13) h3 h4 (by omega)
  rw [mb_one] at c; rw [mb_end] at d
  omega
/-- what Number answers -/
def num (y m d : Int) : Int × Int :=
  if 1990 ≤ y ∧ y ≤ 2189 ∧ 1 ≤ m ∧ m ≤ 12 ∧ 1 ≤ d ∧ d ≤ ml y m then (mb y m + d - 1, 0) else (0, 1)
theorem num_civ {day y m d : Int} (h : IsCiv day y m d) : num y m d = (day, 0) := by
  obtain ⟨h1, h2, h3, h4, h5, h6, h7⟩ := h
  unfold num; rw [if_pos ⟨h1, h2, h3, h4, h5, h6⟩, h7]
theorem num_cases (y m d : Int) : (∃ day, IsCiv day y m d ∧ num y m d = (day, 0)) ∨ (num y m d = (0, 1) ∧ ∀ day, ¬ IsCiv day y m d) := by
  by_cases h : 1990 ≤ y ∧ y ≤ 2189 ∧ 1 ≤ m ∧ m ≤ 12 ∧ 1 ≤ d ∧ d ≤ ml y m
  · obtain ⟨h1, h2, h3, h4, h5, h6⟩ := h
    exact .inl ⟨mb y m + d - 1, ⟨h1, h2, h3, h4, h5, h6, rfl⟩, num_civ ⟨h1, h2, h3, h4, h5, h6, rfl⟩⟩
  · refine .inr ⟨by unfold num; rw [if_neg h], fun day hc => h ?_⟩
    obtain ⟨h1, h2, h3, h4, h5, h6, h7⟩ := hc
    exact ⟨h1, h2, h3, h4, h5, h6⟩
/-- what Months answers for the day with the date y m d -/
def mon (y m d k : Int) : Int × Int :=
  if 12 * (y - 1990) + m - 1 + k < 0 ∨ 2400 ≤ 12 * (y - 1990) + m - 1 + k then (0, 2)
  else num (1990 + (12 * (y - 1990) + m - 1 + k) / 12) (1 + (12 * (y - 1990) + m - 1 + k) % 12) (min d (ml (1990 + (12 * (y - 1990) + m - 1 + k) / 12) (1 + (12 * (y - 1990) + m - 1 + k) % 12)))
theorem mon_civ {day y m d k : Int} (h : IsCiv day y m d) (h1 : 0 ≤ 12 * (y - 1990) + m - 1 + k) (h2 : 12 * (y - 1990) + m - 1 + k < 2400) :
    ∃ a y' m' d', IsCiv a y' m' d' ∧ mon y m d k = (a, 0) ∧ 12 * (y' - 1990) + m' - 1 = 12 * (y - 1990) + m - 1 + k ∧ d' ≤ d ∧ (d' < d → d' = ml y' m') ∧ (d ≤ 28 → d' = d) ∧ d' = min d (ml y' m') := by
  obtain ⟨k1, k2, k3, k4, k5, k6, k7⟩ := h
  unfold mon
  rw [if_neg (by omega)]
  generalize ht : 12 * (y - 1990) + m - 1 + k = t at *
  have b := ml_bd (y := 1990 + t / 12) (m := 1 + t % 12) (by omega) (by omega)
  generalize hL : ml (1990 + t / 12) (1 + t % 12) = L at *
  have hc : IsCiv (mb (1990 + t / 12) (1 + t % 12) + min d L - 1) (1990 + t / 12) (1 + t % 12) (min d L) := ⟨by omega, by omega, by omega, by omega, by omega, by rw [hL]; omega, rfl⟩
  exact ⟨_, _, _, _, hc, num_civ hc, by omega, by omega, by rw [hL]; omega, by omega, by rw [hL]⟩
/-- the months do not decrease with the day -/
theorem civ_le_of {a y m d b y' m' d' : Int} (h : IsCiv a y m d) (h' : IsCiv b y' m' d') (hle : 12 * (y - 1990) + m - 1 < 12 * (y' - 1990) + m' - 1 ∨ (12 * (y - 1990) + m - 1 = 12 * (y' - 1990) + m' - 1 ∧ d ≤ d')) : a ≤ b := by
  have u := civ_year h
  have u' := civ_year h'
  obtain ⟨h1, h2, h3, h4, h5, h6, h7⟩ := h
  obtain ⟨k1, k2, k3, k4, k5, k6, k7⟩ := h'
  rcases Int.lt_trichotomy y y' with hy | hy | hy
  · have := yb_mono (show y + 1 ≤ y' by omega); omega
  · subst hy
    rcases Int.lt_trichotomy m m' with hm | hm | hm
    · have c := mb_step (y := y) (m := m)
      have := mb_mono (y := y) (show 1 ≤ m + 1 by omega) (show m + 1 ≤ m' by omega) (by omega); omega
    · subst hm; omega
    · omega
  · omega
theorem civ_lt_or {a y m d b y' m' d' : Int} (h : IsCiv a y m d) (h' : IsCiv b y' m' d') (hab : a ≤ b) : 12 * (y - 1990) + m - 1 < 12 * (y' - 1990) + m' - 1 ∨ (12 * (y - 1990) + m - 1 = 12 * (y' - 1990) + m' - 1 ∧ d ≤ d') := by
  by_cases hg : 12 * (y - 1990) + m - 1 < 12 * (y' - 1990) + m' - 1 ∨ (12 * (y - 1990) + m - 1 = 12 * (y' - 1990) + m' - 1 ∧ d ≤ d')
  · exact hg
  · exfalso
    have := civ_le_of h' h (by omega)
    obtain rfl : a = b := by omega
    obtain ⟨rfl, rfl, rfl⟩ := civ_unique h h'
    omega
end Go.Proofs.YtlbfnafniobnaaaDoor.Dt

/- The business days of package date, in plain numbers: the count before a day, the first day whose count is greater. -/
import Derived.RowKit
namespace Go.Proofs.YtlbfnafniobnaaaDoor.Dt

/-- the weekdays off -/
def wk (b0 b1 b2 b3 b4 b5 b6 : Bool) : Nat → Bool
  | 0 => b0 | 1 => b1 | 2 => b2 | 3 => b3 | 4 => b4 | 5 => b5 | 6 => b6 | _ => false
/-- strictly increasing day numbers -/
def Asc : List Int → Prop
  | [] => True
  | a :: l => (0 ≤ a ∧ a ≤ 73048) ∧ (∀ b ∈ l, a < b) ∧ Asc l
def bef (W : Nat → Bool) : Nat → Nat
  | 0 => 0
  | k + 1 => bef W k + (if W k = true then 0 else 1)
def taken (W : Nat → Bool) (hs : List Int) : List Int := hs.filter fun h => !W (h % 7).toNat
def past (l : List Int) (d : Int) : Nat := l.countP fun h => decide (h < d)
def cnt (W : Nat → Bool) (hs : List Int) (d : Nat) : Int := (d / 7 * bef W 7 + bef W (d % 7) : Nat) - (past (taken W hs) d : Nat)
def busy (W : Nat → Bool) (hs : List Int) (d : Nat) : Bool := !W (d % 7) && !decide ((d : Int) ∈ hs)

theorem asc_filter {l : List Int} (p : Int → Bool) (h : Asc l) : Asc (l.filter p) := by
  induction l with
  | nil => exact h
  | cons a l ih =>
    obtain ⟨h1, h2, h3⟩ := h
    rw [List.filter_cons]
    split
    · exact ⟨h1, fun b hb => h2 b (List.mem_filter.1 hb).1, ih h3⟩
    · exact ih h3
theorem past_none {l : List Int} {d : Int} (h : ∀ b ∈ l, d ≤ b) : past l d = 0 := by
  unfold past
  rw [List.countP_eq_zero]
  intro a ha
  have := h a ha
  simp; omega
theorem past_step {l : List Int} (h : Asc l) (d : Int) : past l (d + 1) = past l d + (if d ∈ l then 1 else 0) := by
  induction l with
  | nil => simp [past]
  | cons a l ih =>
    obtain ⟨h1, h2, h3⟩ := h
    have e := ih h3
    unfold past at *
    rw [List.countP_cons, List.countP_cons, e]
    by_cases hd : d = a
    · have hn : ¬ d ∈ l := fun hm => by have := h2 d hm; omega
      rw [if_neg hn, if_pos (show decide (a < d + 1) = true by simp; omega), if_neg (by simp; omega), if_pos (by simp [hd])]
    · have hm : (d ∈ a :: l) = (d ∈ l) := by simp [hd]
      by_cases hl : a < d
      · rw [if_pos (show decide (a < d + 1) = true by simp; omega), if_pos (show decide (a < d) = true by simp; omega)]
        simp only [hm]; omega
      · rw [if_neg (show ¬ decide (a < d + 1) = true by simp; omega), if_neg (show ¬ decide (a < d) = true by simp; omega)]
        simp only [hm]; omega
theorem mem_taken {W : Nat → Bool} {hs : List Int} {d : Int} : d ∈ taken W hs ↔ d ∈ hs ∧ W (d % 7).toNat = false := by
  unfold taken; rw [List.mem_filter]; simp
theorem cnt_zero {W : Nat → Bool} {hs : List Int} (h : Asc hs) : cnt W hs 0 = 0 := by
  unfold cnt
  have : past (taken W hs) ((0 : Nat) : Int) = 0 := past_none (fun b hb => by
    have hm := (mem_taken.1 hb).1
    clear hb
    induction hs with
    | nil => cases hm
    | cons a l ih =>
      rcases List.mem_cons.1 hm with rfl | hm
      · exact h.1.1
      · exact ih h.2.2 hm)
  rw [this]; simp [bef]
theorem cnt_step {W : Nat → Bool} {hs : List Int} (h : Asc hs) (d : Nat) : cnt W hs (d + 1) = cnt W hs d + (if busy W hs d = true then 1 else 0) := by
  have hp : past (taken W hs) ((d : Int) + 1) = past (taken W hs) d + (if (d : Int) ∈ taken W hs then 1 else 0) := past_step (asc_filter (fun h => !W (h % 7).toNat) h) (d : Int)
  have hm := mem_taken (W := W) (hs := hs) (d := (d : Int))
  have h7 : ((d : Int) % 7).toNat = d % 7 := by omega
  rw [h7] at hm
  have hq : ((d + 1) / 7 * bef W 7 + bef W ((d + 1) % 7) : Nat) = (d / 7 * bef W 7 + bef W (d % 7)) + (if W (d % 7) = true then 0 else 1) := by
    by_cases h6 : d % 7 = 6
    · rw [show (d + 1) / 7 = d / 7 + 1 by omega, show (d + 1) % 7 = 0 by omega, h6, Nat.add_mul, Nat.one_mul, show bef W 0 = 0 from rfl]
      generalize d / 7 * bef W 7 = X
      rw [show bef W 7 = bef W 6 + (if W 6 = true then 0 else 1) from rfl]
      omega
    · rw [show (d + 1) / 7 = d / 7 by omega, show (d + 1) % 7 = d % 7 + 1 by omega]
      generalize d / 7 * bef W 7 = X
      rw [show bef W (d % 7 + 1) = bef W (d % 7) + (if W (d % 7) = true then 0 else 1) from rfl]
      omega
  unfold cnt busy
  rw [show ((d + 1 : Nat) : Int) = (d : Int) + 1 by omega, hq, hp]
  cases hw : W (d % 7)
  · by_cases hd : (d : Int) ∈ hs
    · rw [if_pos (hm.2 ⟨hd, hw⟩)]; simp [hd]; omega
    · rw [if_neg (fun hx => hd (hm.1 hx).1)]; simp [hd]; omega
  · rw [if_neg (show ¬ ((d : Int) ∈ taken W hs) from fun hx => by have := (hm.1 hx).2; rw [hw] at this; cases this)]; simp
theorem cnt_mono {W : Nat → Bool} {hs : List Int} (h : Asc hs) (a : Nat) : ∀ k : Nat, cnt W hs a ≤ cnt W hs (a + k) ∧ cnt W hs (a + k) ≤ cnt W hs a + k
  | 0 => by simp
  | k + 1 => by
    have e := cnt_mono (W := W) h a k
    have s := cnt_step h (W := W) (a + k)
    rw [← Nat.add_assoc, s]
    split <;> omega
theorem cnt_le {W : Nat → Bool} {hs : List Int} (h : Asc hs) {a b : Nat} (hab : a ≤ b) : cnt W hs a ≤ cnt W hs b ∧ cnt W hs b ≤ cnt W hs a + (b - a : Nat) := by
  have := cnt_mono h (W := W) a (b - a)
  rwa [show a + (b - a) = b by omega] at this
theorem cnt_bd {W : Nat → Bool} {hs : List Int} (h : Asc hs) (a : Nat) : 0 ≤ cnt W hs a ∧ cnt W hs a ≤ a := by
  have := cnt_le h (W := W) (Nat.zero_le a)
  rw [cnt_zero h] at this
  omega
/-- equal counts: no business day between -/
theorem idle_of_eq {W : Nat → Bool} {hs : List Int} (h : Asc hs) {a b d : Nat} (he : cnt W hs b ≤ cnt W hs a) (h1 : a ≤ d) (h2 : d < b) : busy W hs d = false := by
  have s := cnt_step h (W := W) d
  have u := (cnt_le h (W := W) h1).1
  have v := (cnt_le h (W := W) (show d + 1 ≤ b by omega)).1
  cases hb : busy W hs d
  · rfl
  · rw [hb, if_pos rfl] at s; omega
/-- the first day with more than e business days up to it; 73049 if there is none -/
def fst (W : Nat → Bool) (hs : List Int) (e : Int) : Nat := (List.range 73049).countP fun i => !decide (cnt W hs (i + 1) > e)
theorem countP_first (p : Nat → Bool) (hm : ∀ a b, a ≤ b → p a = true → p b = true) : ∀ n : Nat,
    ((List.range n).countP fun i => !p i) ≤ n ∧ (∀ t, t < ((List.range n).countP fun i => !p i) → p t = false) ∧ (((List.range n).countP fun i => !p i) < n → p ((List.range n).countP fun i => !p i) = true)
  | 0 => ⟨by simp, fun t ht => by simp at ht, fun h => by simp at h⟩
  | n + 1 => by
    obtain ⟨h1, h2, h3⟩ := countP_first p hm n
    rw [List.range_succ, List.countP_append]
    generalize ((List.range n).countP fun i => !p i) = c at *
    cases hp : p n
    · have hc : c = n := by
        rcases Nat.lt_or_ge c n with hl | hl
        · have := hm c n (by omega) (h3 hl); rw [hp] at this; cases this
        · omega
      subst hc
      simp [hp]
      intro t ht
      by_cases he : t = c
      · rw [he]; exact hp
      · exact h2 t (by omega)
    · simp [hp]
      refine ⟨by omega, h2, fun _ => ?_⟩
      rcases Nat.lt_or_ge c n with hl | hl
      · exact h3 hl
      · rw [show c = n by omega]; exact hp
theorem fst_spec {W : Nat → Bool} {hs : List Int} (h : Asc hs) (e : Int) : fst W hs e ≤ 73049 ∧ (∀ t, t < fst W hs e → cnt W hs (t + 1) ≤ e) ∧ (fst W hs e < 73049 → cnt W hs (fst W hs e + 1) > e) := by
  have := countP_first (fun i => decide (cnt W hs (i + 1) > e)) (fun a b hab ha => by
    have := (cnt_le h (W := W) (show a + 1 ≤ b + 1 by omega)).1
    simp at ha ⊢; omega) 73049
  obtain ⟨h1, h2, h3⟩ := this
  exact ⟨h1, fun t ht => by have := h2 t ht; simp at this; omega, fun ht => of_decide_eq_true (h3 ht)⟩
/-- where the first day stands: it is a business day, and its count is e -/
theorem fst_in {W : Nat → Bool} {hs : List Int} (h : Asc hs) {e : Int} (he : 0 ≤ e) (hr : fst W hs e ≤ 73048) :
    busy W hs (fst W hs e) = true ∧ cnt W hs (fst W hs e) = e ∧ cnt W hs (fst W hs e + 1) = e + 1 := by
  obtain ⟨h1, h2, h3⟩ := fst_spec h (W := W) e
  have h4 := h3 (by omega)
  have s := cnt_step h (W := W) (fst W hs e)
  have hle : cnt W hs (fst W hs e) ≤ e := by
    rcases Nat.eq_zero_or_pos (fst W hs e) with h0 | h0
    · rw [h0, cnt_zero h]; exact he
    · have := h2 (fst W hs e - 1) (by omega)
      rwa [show fst W hs e - 1 + 1 = fst W hs e by omega] at this
  cases hb : busy W hs (fst W hs e)
  · rw [hb, if_neg (by simp)] at s; omega
  · rw [hb, if_pos rfl] at s; exact ⟨rfl, by omega, by omega⟩
theorem fst_out {W : Nat → Bool} {hs : List Int} (h : Asc hs) {e : Int} (hr : ¬ fst W hs e ≤ 73048) : cnt W hs 73049 ≤ e := by
  obtain ⟨h1, h2, h3⟩ := fst_spec h (W := W) e
  exact h2 73048 (by omega)
/-- the first day is the only business day with this count -/
theorem fst_unique {W : Nat → Bool} {hs : List Int} (h : Asc hs) {r : Nat} (hr : r ≤ 73048) (hb : busy W hs r = true) : fst W hs (cnt W hs r) = r := by
  obtain ⟨h1, h2, h3⟩ := fst_spec h (W := W) (cnt W hs r)
  have s := cnt_step h (W := W) r
  rw [hb, if_pos rfl] at s
  rcases Nat.lt_trichotomy (fst W hs (cnt W hs r)) r with hl | hl | hl
  · have := h3 (by omega)
    have := (cnt_le h (W := W) (show fst W hs (cnt W hs r) + 1 ≤ r by omega)).1
    omega
  · exact hl
  · have := h2 r hl; omega
theorem fst_mono {W : Nat → Bool} {hs : List Int} (h : Asc hs) {e e' : Int} (he : e ≤ e') : fst W hs e ≤ fst W hs e' := by
  obtain ⟨h1, h2, h3⟩ := fst_spec h (W := W) e
  obtain ⟨k1, k2, k3⟩ := fst_spec h (W := W) e'
  rcases Nat.lt_or_ge (fst W hs e') (fst W hs e) with hl | hl
  · have a := k3 (by omega)
    have b := h2 _ hl
    omega
  · exact hl
/-- what Add answers of a valid calendar and a day -/
def earl (W : Nat → Bool) (hs : List Int) (day : Nat) (n : Int) : Int := if n = 0 then cnt W hs day else cnt W hs (day + 1) + n - 1
def add (W : Nat → Bool) (hs : List Int) (day : Nat) (n : Int) : Int × Int :=
  if n > 73048 - day then (0, 2) else if fst W hs (earl W hs day n) ≤ 73048 then ((fst W hs (earl W hs day n) : Nat), 0) else (0, 2)
/-- Add answers a business day, or there is none -/
theorem add_spec {W : Nat → Bool} {hs : List Int} (h : Asc hs) {day : Nat} (hd : day ≤ 73048) {n : Int} (hn : 0 ≤ n) :
    (∃ r : Nat, add W hs day n = ((r : Int), 0) ∧ r ≤ 73048 ∧ busy W hs r = true ∧ cnt W hs r = earl W hs day n ∧ fst W hs (earl W hs day n) = r) ∨ (add W hs day n = (0, 2) ∧ cnt W hs 73049 ≤ earl W hs day n) := by
  have hb := cnt_bd h (W := W) day
  have hb' := cnt_bd h (W := W) (day + 1)
  have hs1 := (cnt_le h (W := W) (show day ≤ day + 1 by omega)).1
  have he : 0 ≤ earl W hs day n := by unfold earl; split <;> omega
  unfold add
  by_cases h1 : n > 73048 - day
  · rw [if_pos h1]
    refine .inr ⟨rfl, ?_⟩
    have := (cnt_le h (W := W) (show day + 1 ≤ 73049 by omega)).2
    unfold earl; split <;> omega
  · rw [if_neg h1]
    by_cases h2 : fst W hs (earl W hs day n) ≤ 73048
    · rw [if_pos h2]
      obtain ⟨a, b, c⟩ := fst_in h he h2
      exact .inl ⟨_, rfl, h2, a, b, rfl⟩
    · rw [if_neg h2]
      exact .inr ⟨rfl, fst_out h h2⟩
end Go.Proofs.YtlbfnafniobnaaaDoor.Dt

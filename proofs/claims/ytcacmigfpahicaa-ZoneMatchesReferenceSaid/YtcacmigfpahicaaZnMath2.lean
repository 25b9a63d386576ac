/- Zones: what the functions of package zone answer, each as one function of its arguments; what the laws ask of them; the rounds of loops over the changes. Nothing of the program's text is named here. -/
import Derived.Test.YtcacmigfpahicaaZnMath
namespace Go.Proofs.Ytcacmigfpahicaa.Zn

def good (o : Int) (cs : List (Int × Int)) (day minute : Int) : Prop := Ok o cs ∧ 0 ≤ day ∧ day ≤ 73048 ∧ 0 ≤ minute ∧ minute ≤ 1439
instance (o : Int) (cs : List (Int × Int)) (day minute : Int) : Decidable (good o cs day minute) := inferInstanceAs (Decidable (Ok o cs ∧ 0 ≤ day ∧ day ≤ 73048 ∧ 0 ≤ minute ∧ minute ≤ 1439))
/-- day, minute, error -/
def localS (o : Int) (cs : List (Int × Int)) (t : Int) : Int × Int × Int :=
  if Ok o cs ∧ 0 ≤ t ∧ t ≤ 105190559 then
    if 0 ≤ t + offAt o cs t ∧ t + offAt o cs t ≤ 105190559 then ((t + offAt o cs t) / 1440, (t + offAt o cs t) % 1440, 0) else (0, 0, 2)
  else (0, 0, 1)
def instS (o : Int) (cs : List (Int × Int)) (day minute : Int) : List Int :=
  if good o cs day minute then inst 0 o cs (day * 1440 + minute) else []
def pickS (l : List Int) (sk : Option Int) (later : Bool) : Int × Int :=
  match l, sk with
  | x :: l, _ => (if later then (x :: l).getLast (List.cons_ne_nil _ _) else x, 0)
  | [], some a => (a, 0)
  | [], none => (0, 2)
/-- instant, error -/
def instantS (o : Int) (cs : List (Int × Int)) (day minute : Int) (later : Bool) : Int × Int :=
  if good o cs day minute then pickS (inst 0 o cs (day * 1440 + minute)) (skip o cs (day * 1440 + minute)) later else (0, 1)
/-- from, to, error -/
def spanS (o : Int) (cs : List (Int × Int)) (day : Int) : Int × Int × Int :=
  if Ok o cs ∧ 0 ≤ day ∧ day ≤ 73047 then
    if (instantS o cs day 0 false).2 = 0 then
      if (instantS o cs (day + 1) 0 false).2 = 0 then ((instantS o cs day 0 false).1, (instantS o cs (day + 1) 0 false).1, 0) else (0, 0, (instantS o cs (day + 1) 0 false).2)
    else (0, 0, (instantS o cs day 0 false).2)
  else (0, 0, 1)

/-- Local's three ways -/
theorem local_ok {o : Int} {cs : List (Int × Int)} {t : Int} (h : Ok o cs ∧ 0 ≤ t ∧ t ≤ 105190559) (hl : 0 ≤ t + offAt o cs t ∧ t + offAt o cs t ≤ 105190559) :
    localS o cs t = ((t + offAt o cs t) / 1440, (t + offAt o cs t) % 1440, 0) := by unfold localS; rw [if_pos h, if_pos hl]
theorem local_range {o : Int} {cs : List (Int × Int)} {t : Int} (h : Ok o cs ∧ 0 ≤ t ∧ t ≤ 105190559) (hl : ¬ (0 ≤ t + offAt o cs t ∧ t + offAt o cs t ≤ 105190559)) :
    localS o cs t = (0, 0, 2) := by unfold localS; rw [if_pos h, if_neg hl]
theorem local_arg {o : Int} {cs : List (Int × Int)} {t : Int} (h : ¬ (Ok o cs ∧ 0 ≤ t ∧ t ≤ 105190559)) : localS o cs t = (0, 0, 1) := by unfold localS; rw [if_neg h]
/-- the local time again from day and minute -/
theorem local_back {o : Int} {cs : List (Int × Int)} {t a b : Int} (h : localS o cs t = (a, b, 0)) :
    Ok o cs ∧ 0 ≤ t ∧ t ≤ 105190559 ∧ a * 1440 + b = t + offAt o cs t ∧ 0 ≤ b ∧ b ≤ 1439 ∧ 0 ≤ a ∧ a ≤ 73048 := by
  unfold localS at h
  split at h
  · next h1 =>
    split at h
    · next h2 =>
      simp only [Prod.mk.injEq, and_true] at h
      obtain ⟨rfl, rfl⟩ := h
      refine ⟨h1.1, h1.2.1, h1.2.2, ?_, ?_, ?_, ?_, ?_⟩ <;> omega
    · simp at h
  · simp at h
theorem local_good {o : Int} {cs : List (Int × Int)} {t a b : Int} (h : localS o cs t = (a, b, 0)) : good o cs a b := by
  obtain ⟨h1, _, _, _, h5, h6, h7, h8⟩ := local_back h
  exact ⟨h1, h7, h8, h5, h6⟩
/-- ZoneInverse: the instant is among the instants of its local time; each of these has it; at most two; they increase -/
theorem inverse {o : Int} {cs : List (Int × Int)} {t a b : Int} (h : localS o cs t = (a, b, 0)) :
    t ∈ instS o cs a b ∧ (instS o cs a b).length ≤ 2 ∧ (∀ x ∈ instS o cs a b, localS o cs x = (a, b, 0) ∧ 0 ≤ x ∧ x ≤ 105190559) ∧ (instS o cs a b).Pairwise (· < ·) := by
  have hg := local_good h
  obtain ⟨h1, h2, h3, h4, h5, h6, h7, h8⟩ := local_back h
  unfold instS
  rw [if_pos hg]
  have hk := h1.2.2.2
  refine ⟨(mem_inst cs 0 o _ t hk).2 ⟨h2, h3, h4.symm⟩, inst_two cs 0 o _ h1.1 h1.2.1 hk, fun x hx => ?_, inst_asc cs 0 o _ hk⟩
  obtain ⟨q1, q2, q3⟩ := (mem_inst cs 0 o _ x hk).1 hx
  refine ⟨?_, q1, q2⟩
  rw [local_ok ⟨h1, q1, q2⟩ (by omega), q3]
  simp only [Prod.mk.injEq, and_true]
  omega
/-- what Instant answers without an error and without an instant of that local time -/
theorem instant_skip {o : Int} {cs : List (Int × Int)} {day minute t : Int} {later : Bool} (hg : good o cs day minute) (hn : instS o cs day minute = []) (h : instantS o cs day minute later = (t, 0)) :
    5760 < t ∧ t ≤ 105190559 ∧ day * 1440 + minute < t + offAt o cs t ∧ t - 1 + offAt o cs (t - 1) < day * 1440 + minute := by
  unfold instS at hn
  rw [if_pos hg] at hn
  unfold instantS pickS at h
  rw [if_pos hg, hn] at h
  rcases hs : skip o cs (day * 1440 + minute) with _ | a
  · rw [hs] at h; simp at h
  · rw [hs] at h
    simp only [Prod.mk.injEq, and_true] at h
    subst h
    obtain ⟨q1, q2, q3, q4⟩ := skip_between cs 0 o _ a hg.1.2.2.2 hs
    exact ⟨by omega, q2, q3, q4⟩
theorem pick_err (l : List Int) (sk : Option Int) (later : Bool) : (pickS l sk later).2 = 0 ∨ pickS l sk later = (0, 2) := by
  unfold pickS
  split
  · exact .inl rfl
  · exact .inl rfl
  · exact .inr rfl
/-- Instant's error goes with 0 -/
theorem instant_err {o : Int} {cs : List (Int × Int)} {day minute : Int} {later : Bool} (h : (instantS o cs day minute later).2 ≠ 0) : (instantS o cs day minute later).1 = 0 := by
  unfold instantS at h ⊢
  split
  · next hg =>
    rw [if_pos hg] at h
    rcases pick_err (inst 0 o cs (day * 1440 + minute)) (skip o cs (day * 1440 + minute)) later with e | e
    · exact absurd e h
    · rw [e]
  · rfl
/-- the earlier instant that stands for a local time is the first one with this or a later local time -/
theorem instant_least {o : Int} {cs : List (Int × Int)} {day minute t : Int} (h : instantS o cs day minute false = (t, 0)) :
    good o cs day minute ∧ 0 ≤ t ∧ t ≤ 105190559 ∧ day * 1440 + minute ≤ t + offAt o cs t ∧ t + offAt o cs t ≤ day * 1440 + minute + 1680 ∧ ∀ t', 0 ≤ t' → t' < t → t' + offAt o cs t' < day * 1440 + minute := by
  unfold instantS at h
  split at h
  · next hg =>
    refine ⟨hg, first_least cs 0 o _ t hg.1.1 hg.1.2.1 (by omega) hg.1.2.2.2 ?_⟩
    unfold pickS at h
    unfold first
    rcases hi : inst 0 o cs (day * 1440 + minute) with _ | ⟨x, l⟩
    · rw [hi] at h
      rcases hs : skip o cs (day * 1440 + minute) with _ | a
      · rw [hs] at h; simp at h
      · rw [hs] at h
        simp only [Prod.mk.injEq, and_true] at h
        rw [h]
    · rw [hi] at h
      simp only [Bool.false_eq_true, if_false, Prod.mk.injEq, and_true] at h
      rw [h]
  · simp at h
theorem span_ok {o : Int} {cs : List (Int × Int)} {d x y : Int} (h : spanS o cs d = (x, y, 0)) :
    instantS o cs d 0 false = (x, 0) ∧ instantS o cs (d + 1) 0 false = (y, 0) := by
  unfold spanS at h
  split at h
  · split at h
    · next h1 =>
      split at h
      · next h2 =>
        simp only [Prod.mk.injEq, and_true] at h
        exact ⟨Prod.ext h.1 h1, Prod.ext h.2 h2⟩
      · next h2 => simp only [Prod.mk.injEq] at h; exact absurd h.2.2 h2
    · next h1 => simp only [Prod.mk.injEq] at h; exact absurd h.2.2 h1
  · simp at h
theorem span_err {o : Int} {cs : List (Int × Int)} {d x y e : Int} (h : spanS o cs d = (x, y, e)) (he : e ≠ 0) : x = 0 ∧ y = 0 := by
  unfold spanS at h
  split at h
  · split at h
    · split at h
      · simp only [Prod.mk.injEq] at h; exact absurd h.2.2.symm he
      · simp only [Prod.mk.injEq] at h; exact ⟨h.1.symm, h.2.1.symm⟩
    · simp only [Prod.mk.injEq] at h; exact ⟨h.1.symm, h.2.1.symm⟩
  · simp only [Prod.mk.injEq] at h; exact ⟨h.1.symm, h.2.1.symm⟩
/-- ZoneDays: a span's ends, and what lies before its beginning -/
theorem days {o : Int} {cs : List (Int × Int)} {d x y : Int} (hd : d ≤ 73046) (h : spanS o cs d = (x, y, 0)) :
    x ≤ y ∧ 0 ≤ x ∧ x ≤ 105190559 ∧ (∃ b m, localS o cs x = (b, m, 0) ∧ d ≤ b) ∧ (∀ t a m, 0 ≤ t → t < x → localS o cs t = (a, m, 0) → a < d) := by
  obtain ⟨e1, e2⟩ := span_ok h
  obtain ⟨g, q1, q2, q3, q4, q5⟩ := instant_least e1
  obtain ⟨_, r1, r2, r3, _, _⟩ := instant_least e2
  obtain ⟨gk, gd, _, _, _⟩ := g
  refine ⟨?_, q1, q2, ⟨_, _, local_ok ⟨gk, q1, q2⟩ ⟨by omega, by omega⟩, by omega⟩, fun t a m ht hlt hl => ?_⟩
  · rcases Int.lt_or_le y x with hlt | hle
    · have := q5 y r1 hlt; omega
    · exact hle
  · have u := q5 t ht hlt
    obtain ⟨_, _, _, v, v1, v2, _, _⟩ := local_back hl
    omega
theorem days_next {o : Int} {cs : List (Int × Int)} {d x y u v : Int} (h : spanS o cs d = (x, y, 0)) (h2 : spanS o cs (d + 1) = (u, v, 0)) : u = y := by
  have a := (span_ok h).2
  have b := (span_ok h2).1
  rw [a] at b
  exact (congrArg Prod.fst b).symm
/-- ZoneMoved -/
theorem moved {o n : Int} {cs : List (Int × Int)} {t a b c d : Int} (h : localS o cs t = (a, b, 0)) (h2 : localS (o + n) (cs.map fun c => (c.1, c.2 + n)) t = (c, d, 0)) : c * 1440 + d = a * 1440 + b + n := by
  obtain ⟨_, _, _, u, _⟩ := local_back h
  obtain ⟨_, _, _, v, _⟩ := local_back h2
  rw [offAt_moved] at v
  omega
/-- ZoneFixed -/
theorem ok_nil (o : Int) : Ok o [] ↔ -840 ≤ o ∧ o ≤ 840 := ⟨fun h => ⟨h.1, h.2.1⟩, fun h => ⟨h.1, h.2, by simp, trivial⟩⟩
theorem fixed {o t a b : Int} (h : localS o [] t = (a, b, 0)) : a * 1440 + b = t + o ∧ instS o [] a b = [t] := by
  have hg := local_good h
  obtain ⟨_, h2, h3, h4, _, _, _, _⟩ := local_back h
  have e : offAt o [] t = o := rfl
  rw [e] at h4
  refine ⟨h4, ?_⟩
  unfold instS inst cand
  rw [if_pos hg, if_pos (by omega), h4]
  congr 1
  omega

/- loops over the changes, by index -/
theorem drop_step {cs : List (Int × Int)} {k : Nat} (h : k < cs.length) : cs.drop k = ((cs.getD k (0, 0)).1, (cs.getD k (0, 0)).2) :: cs.drop (k + 1) := by
  have e : cs.getD k (0, 0) = cs[k] := by simp [h]
  rw [e]
  exact List.drop_eq_getElem_cons h
theorem okC_step {cs : List (Int × Int)} {k : Nat} {b : Int} (h : k < cs.length) :
    OkC b (cs.drop k) ↔ (-840 ≤ (cs.getD k (0, 0)).2 ∧ (cs.getD k (0, 0)).2 ≤ 840 ∧ (cs.getD k (0, 0)).1 ≤ 105190559 ∧ b + 5760 < (cs.getD k (0, 0)).1 ∧ OkC (cs.getD k (0, 0)).1 (cs.drop (k + 1))) := by
  rw [drop_step h]; exact Iff.rfl
theorem okC_end {cs : List (Int × Int)} {k : Nat} {b : Int} (h : cs.length ≤ k) : OkC b (cs.drop k) := by rw [List.drop_eq_nil_of_le h]; trivial
theorem seg_step {cs : List (Int × Int)} {k : Nat} {t : Int} (h : k < cs.length) : seg (cs.drop k) t = if (cs.getD k (0, 0)).1 ≤ t then seg (cs.drop (k + 1)) t + 1 else 0 := by
  rw [drop_step h]; rfl
theorem seg_end {cs : List (Int × Int)} {k : Nat} {t : Int} (h : cs.length ≤ k) : seg (cs.drop k) t = 0 := by rw [List.drop_eq_nil_of_le h]; rfl
theorem offAt_step {cs : List (Int × Int)} {k : Nat} {o t : Int} (h : k < cs.length) : offAt o (cs.drop k) t = if t < (cs.getD k (0, 0)).1 then o else offAt (cs.getD k (0, 0)).2 (cs.drop (k + 1)) t := by
  rw [drop_step h]; rfl
theorem skip_step {cs : List (Int × Int)} {k : Nat} {o L : Int} (h : k < cs.length) : skip o (cs.drop k) L = if (cs.getD k (0, 0)).1 + o ≤ L ∧ L < (cs.getD k (0, 0)).1 + (cs.getD k (0, 0)).2 then some (cs.getD k (0, 0)).1 else skip (cs.getD k (0, 0)).2 (cs.drop (k + 1)) L := by
  rw [drop_step h]; rfl
theorem skip_end {cs : List (Int × Int)} {k : Nat} {o L : Int} (h : cs.length ≤ k) : skip o (cs.drop k) L = none := by rw [List.drop_eq_nil_of_le h]; rfl
theorem inst_step {cs : List (Int × Int)} {k : Nat} {lo o L : Int} (h : k < cs.length) : inst lo o (cs.drop k) L = cand lo (cs.getD k (0, 0)).1 (L - o) ++ inst (cs.getD k (0, 0)).1 (cs.getD k (0, 0)).2 (cs.drop (k + 1)) L := by
  rw [drop_step h]; rfl
theorem inst_end {cs : List (Int × Int)} {k : Nat} {lo o L : Int} (h : cs.length ≤ k) : inst lo o (cs.drop k) L = cand lo 105190560 (L - o) := by rw [List.drop_eq_nil_of_le h]; rfl
/-- the last change not after an instant, if there is one: for programs that look from behind -/
theorem offAt_last {cs : List (Int × Int)} {o t : Int} (k : Nat) (h : seg cs t = k) : offAt o cs t = offs o cs k := by rw [← h, offs_seg]
end Go.Proofs.Ytcacmigfpahicaa.Zn
